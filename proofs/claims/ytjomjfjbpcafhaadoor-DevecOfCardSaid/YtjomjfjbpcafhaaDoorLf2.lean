/- Functions of the program as functions on data, and that they are. -/
import Derived.Test.YtjomjfjbpcafhaaDoorEvZ
import Derived.Test.YtjomjfjbpcafhaaDoorLf1
import Derived.Test.YtjomjfjbpcafhaaDoorLy1
namespace Go.Proofs.YtjomjfjbpcafhaaDoor
namespace Ev
open Go
set_option linter.unusedVariables false
set_option linter.unusedSimpArgs false
set_option maxRecDepth 100000
set_option maxHeartbeats 1000000
attribute [local irreducible] OpsL StL TnL WpL EndL
noncomputable def ref03_words (n1 : Int) : Option (Int) :=
 (if n1 > 4096 then (if (4096 : Int) < 1 then some 0 else ((divO .i64 (IntKind.i64.wrap (4096 + 63)) 64).bind fun n4 => some n4)) else (if n1 < 1 then some 0 else ((divO .i64 (IntKind.i64.wrap (n1 + 63)) 64).bind fun n7 => some n7)))
theorem ref03_words_r (m : Nat) {n1 : Int} {out : Int} (h : ref03_words n1 = some out) : RunsP E1 (m + 1) 87 [.one (iT .i64 n1)] (.fresh, [.one (iT .i64 out)]) := by
 refine fn_F rfl (by rw [E1_fn]; exact show fiOf Tryd.prog 87 = _ by unfold fiOf; rw [Tryd.func87]; unfold Tryd.f87; rfl) rfl ?_
 dsimp only
 unfold ref03_words at h
 refine lS (lO ?_)
 refine pq (qa (iO 0)) ?_
 refine oE (eS (lS (lS (lO ?_))))
 refine pq (qm (iO n1)) ?_
 by_cases c2 : n1 > 4096
 replace h := ifT c2 h
 refine pq (qb (p_gtr_tZ c2)) ?_
 refine oE (eS (cT rfl (lO ?_)))
 refine pq (qa (iO 4096)) ?_
 refine oE (eS (lS (lS (lO ?_))))
 refine pq (qm (iO 4096)) ?_
 by_cases c3 : (4096 : Int) < 1
 replace h := ifT c3 h
 refine pq (qb (p_lss_tZ c3)) ?_
 refine oE (eS (cT rfl (lS (lO ?_))))
 refine pq (qa (iO 0)) ?_
 refine oE (eS (lR (eR ?_)))
 obtain rfl := sj h
 exact eF1
 replace h := ifF c3 h
 refine pq (qb (p_lss_fZ c3)) ?_
 refine oE (eS (cF rfl (lK (eS (lS (lO ?_))))))
 refine pq (qm (iO 4096)) ?_
 refine pq (qb p_addY) ?_
 obtain ⟨n4, h5, h⟩ := bindS h
 refine pq (q_bin rfl rfl (divO_p h5) rfl) ?_
 refine pq (qa (iO n4)) ?_
 refine oE (eS (lR ?_))
 obtain rfl := sj h
 exact eF1
 replace h := ifF c2 h
 refine pq (qb (p_gtr_fZ c2)) ?_
 refine oE (eS (cF rfl (lK (eS (lS (lS (lO ?_)))))))
 refine pq (qm (iO n1)) ?_
 by_cases c6 : n1 < 1
 replace h := ifT c6 h
 refine pq (qb (p_lss_tZ c6)) ?_
 refine oE (eS (cT rfl (lS (lO ?_))))
 refine pq (qa (iO 0)) ?_
 refine oE (eS (lR (eR ?_)))
 obtain rfl := sj h
 exact eF1
 replace h := ifF c6 h
 refine pq (qb (p_lss_fZ c6)) ?_
 refine oE (eS (cF rfl (lK (eS (lS (lO ?_))))))
 refine pq (qm (iO n1)) ?_
 refine pq (qb p_addY) ?_
 obtain ⟨n7, h8, h⟩ := bindS h
 refine pq (q_bin rfl rfl (divO_p h8) rfl) ?_
 refine pq (qa (iO n7)) ?_
 refine oE (eS (lR ?_))
 obtain rfl := sj h
 exact eF1
noncomputable def ref03_Has (s1 : Sl (Int)) (n2 : Int) : Option (Bool) :=
 (if n2 ≥ 0 then ((divO .i64 n2 64).bind fun n4 => (if n4 < ((s1.l.length : Nat) : Int) then ((atS 1 s1 n4).bind fun n9 => ((modO n2 64).bind fun n10 => ((shr1 .u64 n9 (IntKind.u64.wrap n10)).bind fun n12 => (if (andI .u64 n12 1) = 1 then some true else some false)))) else some false)) else some false)
theorem ref03_Has_r (m : Nat) {s1 : Sl (Int)} {n2 : Int} {out : Bool} (h : ref03_Has s1 n2 = some out) : RunsP E1 (m + 1) 47 [.one (Sl.t r85 s1), .one (iT .i64 n2)] (.fresh, [.one (bT out)]) := by
 refine fn_F rfl (by rw [E1_fn]; exact show fiOf Tryd.prog 47 = _ by unfold fiOf; rw [Tryd.func47]; unfold Tryd.f47; rfl) rfl ?_
 dsimp only
 unfold ref03_Has at h
 refine lS (lO ?_)
 refine pq (qa bf) ?_
 refine oN ?_
 refine pq (qm (iO n2)) ?_
 by_cases c3 : n2 ≥ 0
 replace h := ifT c3 h
 refine pq (qb (p_geq_tZ c3)) ?_
 refine pq (qm bt) ?_
 refine pq (qm (iO n2)) ?_
 obtain ⟨n4, h5, h⟩ := bindS h
 refine pq (q_bin rfl rfl (divO_p h5) rfl) ?_
 refine pq (qm (.one (sF r85 s1))) ?_
 refine pq (q_lenS rfl ty22 rfl rfl rfl rfl) ?_
 by_cases c6 : n4 < ((s1.l.length : Nat) : Int)
 replace h := ifT c6 h
 refine pq (qb (p_lss_tZ c6)) ?_
 refine pq (qpt bt) ?_
 refine pq (qm bt) ?_
 refine pq (qm (.one (sF r85 s1))) ?_
 refine pq (qm (iO n2)) ?_
 refine pq (q_bin rfl rfl (divO_p h5) rfl) ?_
 obtain ⟨n9, h8, h⟩ := bindS h
 obtain ⟨h8a, h8b, h8⟩ := atS_some h8
 refine pq (q_ixS rfl rfl h8a h8 (el22.trans (congrArg some h8b.symm))) ?_
 refine pq (q_loadI (v := .one (uI n9)) rfl sz85 (map_get h8) rfl rfl) ?_
 refine pq (qm (iO n2)) ?_
 obtain ⟨n10, h11, h⟩ := bindS h
 refine pq (q_bin rfl rfl (modO_p h11) rfl) ?_
 refine pq (q_conv rfl (cv3_97_i64 _) rfl) ?_
 obtain ⟨n12, h13, h⟩ := bindS h
 refine pq (q_bin rfl rfl (p_shr h13) rfl) ?_
 refine pq (q_bin rfl rfl (p_and _ _ _ _ _ _ _) rfl) ?_
 by_cases c14 : (andI .u64 n12 1) = 1
 replace h := ifT c14 h
 refine pq (qb (p_eql_tZ c14)) ?_
 refine pq (qpt bt) ?_
 refine pq (qa bt) ?_
 refine oE (eS (lR ?_))
 obtain rfl := sj h
 exact eF1
 replace h := ifF c14 h
 refine pq (qb (p_eql_fZ c14)) ?_
 refine pq (qpt bf) ?_
 refine pq (qa bf) ?_
 refine oE (eS (lR ?_))
 obtain rfl := sj h
 exact eF1
 replace h := ifF c6 h
 refine pq (qb (p_lss_fZ c6)) ?_
 refine pq (qpt bf) ?_
 refine pq (qm bf) ?_
 iterate 11 refine os ?_
 refine pq (qpf bf) ?_
 refine pq (qa bf) ?_
 refine oE (eS (lR ?_))
 obtain rfl := sj h
 exact eF1
 replace h := ifF c3 h
 refine pq (qb (p_geq_fZ c3)) ?_
 refine pq (qm bf) ?_
 iterate 5 refine os ?_
 refine pq (qpf bf) ?_
 refine pq (qm bf) ?_
 iterate 11 refine os ?_
 refine pq (qpf bf) ?_
 refine pq (qa bf) ?_
 refine oE (eS (lR ?_))
 obtain rfl := sj h
 exact eF1
noncomputable def ref03_New (n1 : Int) : Option (List (Int)) :=
 ((ref03_words n1).bind fun n3 => ((lenOk n3).bind fun _ => some (List.replicate n3.toNat (0 : Int))))
theorem ref03_New_r (m : Nat) {n1 : Int} {out : List (Int)} (h : ref03_New n1 = some out) : RunsP E1 (m + 2) 60 [.one (iT .i64 n1)] (.own, [.one (.s true 1 ((out).map r85))]) := by
 refine fn_O rfl (by rw [E1_fn]; exact show fiOf Tryd.prog 60 = _ by unfold fiOf; rw [Tryd.func60]; unfold Tryd.f60; rfl) rfl ?_
 dsimp only
 unfold ref03_New at h
 refine lS (lO ?_)
 refine pq (qa (.one nC)) ?_
 refine oN ?_
 refine pq (qm (iO n1)) ?_
 obtain ⟨n3, h2, h⟩ := bindS h
 refine pq (qc (iO n3) [iO n1] (ref03_words_r (m + 0) h2) (vw_cons (vd_one vc_v) vw_nil)) ?_
 obtain ⟨u4, h5, h⟩ := bindS h
 refine ol_new rfl rfl rfl (q_mkslice (r := rowC r85) (a := (0 : Int)) ty22 rfl ty85 rfl rfl (lenOk_some h5).1 (lenOk_some h5).2 rfl rfl) (fun k6 => ?_)
 refine pq (qa (.one (.own k6 0 ((List.replicate n3.toNat (0 : Int))).length))) ?_
 refine oE (eS (lR ?_))
 obtain rfl := sj h
 exact E_endO (r := r85) 0 (.inr rfl) (res_tmp rfl res_nil) rfl (fun x h m => rfl) (fun x => rfl)
noncomputable def ref03_set (s1 : Sl (Int)) (n2 : Int) (b3 : Bool) : Option (List (Int)) :=
 ((app ([] : List (Int)) s1.l).bind fun _ => (if n2 < 0 then some (([] : List (Int)) ++ s1.l) else ((divO .i64 n2 64).bind fun n8 => (if n8 ≥ ((s1.l.length : Nat) : Int) then some (([] : List (Int)) ++ s1.l) else ((modO n2 64).bind fun n11 => ((shl1 .u64 1 (IntKind.u64.wrap n11)).bind fun n13 => (if b3 = true then ((atS 1 (mo 1 (([] : List (Int)) ++ s1.l)) n8).bind fun n20 => some ((([] : List (Int)) ++ s1.l).set n8.toNat (orI .u64 n20 n13))) else ((atS 1 (mo 1 (([] : List (Int)) ++ s1.l)) n8).bind fun n17 => some ((([] : List (Int)) ++ s1.l).set n8.toNat (andNotI .u64 n17 n13))))))))))
theorem ref03_set_r (m : Nat) {s1 : Sl (Int)} {n2 : Int} {b3 : Bool} {out : List (Int)} (h : ref03_set s1 n2 b3 = some out) : RunsP E1 (m + 1) 101 [.one (Sl.t r85 s1), .one (iT .i64 n2), .one (bT b3)] (resM 1 r85 out) := by
 refine fn_M rfl (by rw [E1_fn]; exact show fiOf Tryd.prog 101 = _ by unfold fiOf; rw [Tryd.func101]; unfold Tryd.f101; rfl) rfl ?_
 dsimp only
 unfold ref03_set at h
 refine lS (lO ?_)
 refine pq (qa (.one nC)) ?_
 refine oN ?_
 refine pq (qa (.one nC)) ?_
 refine oN ?_
 refine pq (qm (.one nC)) ?_
 refine pq (qm (.one (sF r85 s1))) ?_
 refine ol_addM (α := Int) r85 1 ?_
 obtain ⟨_, h4, h⟩ := bindS h
 obtain ⟨h4b, rfl⟩ := app_some h4
 refine ol_appM (r := r85) (l := ([] : List (Int))) (ys := s1.l) 0 rfl rfl rfl rfl rfl rfl (el_dat (fr := false) (r := r85) (fun x => rfl)) rfl h4 (fun y => rfl) el22 ty22 rfl rfl rfl rfl rfl (fun k6 => ?_)
 refine pq (qa (.one (moC (([] : List (Int)) ++ s1.l) k6))) ?_
 refine oE (eS (lS (lS (lO ?_))))
 refine pq (qm (iO n2)) ?_
 by_cases c7 : n2 < 0
 replace h := ifT c7 h
 refine pq (qb (p_lss_tZ c7)) ?_
 refine pq (qm bt) ?_
 iterate 5 refine os ?_
 refine pq (qpt bt) ?_
 refine oE (eS (cT rfl (lS (lO ?_))))
 refine pq (qm (.one (moC (([] : List (Int)) ++ s1.l) k6))) ?_
 refine pq (qa (.one (moC (([] : List (Int)) ++ s1.l) k6))) ?_
 refine oE (eS (lR (eR ?_)))
 obtain rfl := sj h
 exact E_endM (r := r85) 0 (.inr rfl) (res_tmp rfl res_nil) rfl (fun x h m => rfl) (fun x => rfl)
 replace h := ifF c7 h
 refine pq (qb (p_lss_fZ c7)) ?_
 refine pq (qm bf) ?_
 refine pq (qm (iO n2)) ?_
 obtain ⟨n8, h9, h⟩ := bindS h
 refine pq (q_bin rfl rfl (divO_p h9) rfl) ?_
 refine pq (qm (.one (sF r85 s1))) ?_
 refine pq (q_lenS rfl ty22 rfl rfl rfl rfl) ?_
 by_cases c10 : n8 ≥ ((s1.l.length : Nat) : Int)
 replace h := ifT c10 h
 refine pq (qb (p_geq_tZ c10)) ?_
 refine pq (qpf bt) ?_
 refine oE (eS (cT rfl (lS (lO ?_))))
 refine pq (qm (.one (moC (([] : List (Int)) ++ s1.l) k6))) ?_
 refine pq (qa (.one (moC (([] : List (Int)) ++ s1.l) k6))) ?_
 refine oE (eS (lR (eR ?_)))
 obtain rfl := sj h
 exact E_endM (r := r85) 0 (.inr rfl) (res_tmp rfl res_nil) rfl (fun x h m => rfl) (fun x => rfl)
 replace h := ifF c10 h
 refine pq (qb (p_geq_fZ c10)) ?_
 refine pq (qpf bf) ?_
 refine oE (eS (cF rfl (lK (eS (lS (lO ?_))))))
 refine pq (qm (iO n2)) ?_
 obtain ⟨n11, h12, h⟩ := bindS h
 refine pq (q_bin rfl rfl (modO_p h12) rfl) ?_
 refine pq (q_conv rfl (cv3_97_i64 _) rfl) ?_
 obtain ⟨n13, h14, h⟩ := bindS h
 refine pq (q_bin rfl rfl (p_shl h14) rfl) ?_
 refine pq (qa (.one (uI n13))) ?_
 refine oE (eS (lS (lS (lO ?_))))
 refine pq (qm (bO b3)) ?_
 refine oE (eS ?_)
 rcases b3 with _ | _
 replace h := wF h
 refine cF rfl (lO ?_)
 refine pq (qm (.one (moC (([] : List (Int)) ++ s1.l) k6))) ?_
 refine pq (qm (iO n2)) ?_
 refine pq (q_bin rfl rfl (divO_p h9) rfl) ?_
 refine pq (qm (.one (moC (([] : List (Int)) ++ s1.l) k6))) ?_
 refine pq (qm (iO n2)) ?_
 refine pq (q_bin rfl rfl (divO_p h9) rfl) ?_
 obtain ⟨n17, h16, h⟩ := bindS h
 obtain ⟨h16a, h16⟩ := atM_some h16
 refine pq (q_ixM (r := r85) 0 rfl rfl h16a h16 rfl el22) ?_
 refine pq (q_loadP (v := .one (uI n17)) 0 rfl sz85 (segM (r := r85) rfl h16) (map_get h16) rfl rfl) ?_
 refine pq (qm (.one (uI n13))) ?_
 refine pq (q_bin rfl rfl (p_andNot _ _ _ _ _ _ _) rfl) ?_
 refine pq (q_ixM (r := r85) 0 rfl rfl h16a h16 rfl el22) ?_
 refine ol_wr rfl rfl (q_store (e' := rowC r85 (andNotI .u64 n17 n13)) (es' := (((([] : List (Int)) ++ s1.l).set n8.toNat (andNotI .u64 n17 n13))).map (rowC r85)) 0 rfl rfl rfl sz85 rfl (segM (r := r85) rfl h16) (map_get h16) rfl map_set) (congrArg (fun z => List.set _ 0 z) (setM (r := r85) h16)) ?_
 refine ol_re 7 (v := .one (moC ((([] : List (Int)) ++ s1.l).set n8.toNat (andNotI .u64 n17 n13)) k6)) (Eq.trans (b := .one (moC (([] : List (Int)) ++ s1.l) k6)) rfl (congrArg D.one moC_set)) ?_
 refine ol_re 11 (v := .one (moC ((([] : List (Int)) ++ s1.l).set n8.toNat (andNotI .u64 n17 n13)) k6)) (Eq.trans (b := .one (moC (([] : List (Int)) ++ s1.l) k6)) rfl (congrArg D.one moC_set)) ?_
 refine ol_re 38 (v := .one (moC ((([] : List (Int)) ++ s1.l).set n8.toNat (andNotI .u64 n17 n13)) k6)) (Eq.trans (b := .one (moC (([] : List (Int)) ++ s1.l) k6)) rfl (congrArg D.one moC_set)) ?_
 refine ol_re 41 (v := .one (moC ((([] : List (Int)) ++ s1.l).set n8.toNat (andNotI .u64 n17 n13)) k6)) (Eq.trans (b := .one (moC (([] : List (Int)) ++ s1.l) k6)) rfl (congrArg D.one moC_set)) ?_
 refine oN ?_
 refine pq (qm (.one (moC ((([] : List (Int)) ++ s1.l).set n8.toNat (andNotI .u64 n17 n13)) k6))) ?_
 refine pq (qa (.one (moC ((([] : List (Int)) ++ s1.l).set n8.toNat (andNotI .u64 n17 n13)) k6))) ?_
 refine oE (eS (lR ?_))
 obtain rfl := sj h
 exact E_endM (r := r85) 0 (.inr rfl) (res_tmp rfl res_nil) rfl (fun x h m => rfl) (fun x => rfl)
 replace h := wT h
 refine cT rfl (lO ?_)
 refine pq (qm (.one (moC (([] : List (Int)) ++ s1.l) k6))) ?_
 refine pq (qm (iO n2)) ?_
 refine pq (q_bin rfl rfl (divO_p h9) rfl) ?_
 refine pq (qm (.one (moC (([] : List (Int)) ++ s1.l) k6))) ?_
 refine pq (qm (iO n2)) ?_
 refine pq (q_bin rfl rfl (divO_p h9) rfl) ?_
 obtain ⟨n20, h19, h⟩ := bindS h
 obtain ⟨h19a, h19⟩ := atM_some h19
 refine pq (q_ixM (r := r85) 0 rfl rfl h19a h19 rfl el22) ?_
 refine pq (q_loadP (v := .one (uI n20)) 0 rfl sz85 (segM (r := r85) rfl h19) (map_get h19) rfl rfl) ?_
 refine pq (qm (.one (uI n13))) ?_
 refine pq (q_bin rfl rfl (p_or _ _ _ _ _ _ _) rfl) ?_
 refine pq (q_ixM (r := r85) 0 rfl rfl h19a h19 rfl el22) ?_
 refine ol_wr rfl rfl (q_store (e' := rowC r85 (orI .u64 n20 n13)) (es' := (((([] : List (Int)) ++ s1.l).set n8.toNat (orI .u64 n20 n13))).map (rowC r85)) 0 rfl rfl rfl sz85 rfl (segM (r := r85) rfl h19) (map_get h19) rfl map_set) (congrArg (fun z => List.set _ 0 z) (setM (r := r85) h19)) ?_
 refine ol_re 7 (v := .one (moC ((([] : List (Int)) ++ s1.l).set n8.toNat (orI .u64 n20 n13)) k6)) (Eq.trans (b := .one (moC (([] : List (Int)) ++ s1.l) k6)) rfl (congrArg D.one moC_set)) ?_
 refine ol_re 11 (v := .one (moC ((([] : List (Int)) ++ s1.l).set n8.toNat (orI .u64 n20 n13)) k6)) (Eq.trans (b := .one (moC (([] : List (Int)) ++ s1.l) k6)) rfl (congrArg D.one moC_set)) ?_
 refine ol_re 27 (v := .one (moC ((([] : List (Int)) ++ s1.l).set n8.toNat (orI .u64 n20 n13)) k6)) (Eq.trans (b := .one (moC (([] : List (Int)) ++ s1.l) k6)) rfl (congrArg D.one moC_set)) ?_
 refine ol_re 30 (v := .one (moC ((([] : List (Int)) ++ s1.l).set n8.toNat (orI .u64 n20 n13)) k6)) (Eq.trans (b := .one (moC (([] : List (Int)) ++ s1.l) k6)) rfl (congrArg D.one moC_set)) ?_
 refine oN ?_
 refine pq (qm (.one (moC ((([] : List (Int)) ++ s1.l).set n8.toNat (orI .u64 n20 n13)) k6))) ?_
 refine pq (qa (.one (moC ((([] : List (Int)) ++ s1.l).set n8.toNat (orI .u64 n20 n13)) k6))) ?_
 refine oE (eS (lR ?_))
 obtain rfl := sj h
 exact E_endM (r := r85) 0 (.inr rfl) (res_tmp rfl res_nil) rfl (fun x h m => rfl) (fun x => rfl)
noncomputable def ref03_Put (s1 : Sl (Int)) (n2 : Int) : Option (List (Int)) :=
 ((ref03_set s1 n2 true).bind fun s4 => some s4)
theorem ref03_Put_r (m : Nat) {s1 : Sl (Int)} {n2 : Int} {out : List (Int)} (h : ref03_Put s1 n2 = some out) : RunsP E1 (m + 2) 80 [.one (Sl.t r85 s1), .one (iT .i64 n2)] (resM 1 r85 out) := by
 refine fn_M rfl (by rw [E1_fn]; exact show fiOf Tryd.prog 80 = _ by unfold fiOf; rw [Tryd.func80]; unfold Tryd.f80; rfl) rfl ?_
 dsimp only
 unfold ref03_Put at h
 refine lS (lO ?_)
 refine pq (qa (.one nC)) ?_
 refine oN ?_
 refine pq (qm (.one (sF r85 s1))) ?_
 refine pq (qm (iO n2)) ?_
 obtain ⟨s4, h3, h⟩ := bindS h
 refine ol_callM (r := r85) (l := s4) (args := [.one (sF r85 s1), iO n2, bt]) (ref03_set_r (m + 0) h3) rfl rfl rfl rfl rfl rfl (vw_cons (vd_one vc_s) (vw_cons (vd_one vc_v) (vw_cons (vd_one vc_v) vw_nil))) rfl (fun k5 => ?_)
 refine pq (qa (.one (moC s4 k5))) ?_
 refine oE (eS (lR ?_))
 obtain rfl := sj h
 exact E_endM (r := r85) 0 (.inr rfl) (res_tmp rfl res_nil) rfl (fun x h m => rfl) (fun x => rfl)
end Ev
end Go.Proofs.YtjomjfjbpcafhaaDoor
