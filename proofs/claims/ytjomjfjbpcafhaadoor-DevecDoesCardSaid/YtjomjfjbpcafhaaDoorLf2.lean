/- Functions of the program as functions on data, and that they are. -/
import Derived.Test.YtjomjfjbpcafhaaDoorEvZ
import Derived.Test.YtjomjfjbpcafhaaDoorLf1
import Derived.Test.YtjomjfjbpcafhaaDoorLy1
namespace Go.Proofs.YtjomjfjbpcafhaaDoor
namespace Ev
open Go
set_option linter.unusedVariables false
set_option linter.unusedSimpArgs false
set_option maxRecDepth 100000
set_option maxHeartbeats 1000000
attribute [local irreducible] OpsL StL TnL WpL EndL
noncomputable def ref03_words (n1 : Int) : Option (Int) :=
  (if n1 > 4096 then (if (4096 : Int) < 1 then some 0 else ((divO .i64 (IntKind.i64.wrap (4096 + 63)) 64).bind fun n4 => some n4)) else (if n1 < 1 then some 0 else ((divO .i64 (IntKind.i64.wrap (n1 + 63)) 64).bind fun n7 => some n7)))
theorem ref03_words_r (m : Nat) {n1 : Int} {out : Int} (h : ref03_words n1 = some out) : RunsP E1 (m + 1) 87 [.one (iT .i64 n1)] (.fresh, [.one (iT .i64 out)]) := by
 refine fn_F rfl (by rw [E1_fn]; exact show fiOf Tryd.prog 87 = _ by unfold fiOf; rw [Tryd.func87]; unfold Tryd.f87; rfl) rfl ?_
 dsimp only
 unfold ref03_words at h
 refine lS (lO ?_)
 refine pq (qa (iO 0)) ?_
 refine oE (eS (lS (lS (lO ?_))))
 refine pq (qm (iO n1)) ?_
 by_cases c2 : n1 > 4096
 replace h := ifT c2 h
 refine pq (qb (p_gtr_tZ c2)) ?_
 refine oE (eS (cT rfl (lO ?_)))
 refine pq (qa (iO 4096)) ?_
 refine oE (eS (lS (lS (lO ?_))))
 refine pq (qm (iO 4096)) ?_
 by_cases c3 : (4096 : Int) < 1
 replace h := ifT c3 h
 refine pq (qb (p_lss_tZ c3)) ?_
 refine oE (eS (cT rfl (lS (lO ?_))))
 refine pq (qa (iO 0)) ?_
 refine oE (eS (lR (eR ?_)))
 obtain rfl := sj h
 exact eF1
 replace h := ifF c3 h
 refine pq (qb (p_lss_fZ c3)) ?_
 refine oE (eS (cF rfl (lK (eS (lS (lO ?_))))))
 refine pq (qm (iO 4096)) ?_
 refine pq (qb p_addY) ?_
 obtain ⟨n4, h5, h⟩ := bindS h
 refine pq (q_bin rfl rfl (divO_p h5) rfl) ?_
 refine pq (qa (iO n4)) ?_
 refine oE (eS (lR ?_))
 obtain rfl := sj h
 exact eF1
 replace h := ifF c2 h
 refine pq (qb (p_gtr_fZ c2)) ?_
 refine oE (eS (cF rfl (lK (eS (lS (lS (lO ?_)))))))
 refine pq (qm (iO n1)) ?_
 by_cases c6 : n1 < 1
 replace h := ifT c6 h
 refine pq (qb (p_lss_tZ c6)) ?_
 refine oE (eS (cT rfl (lS (lO ?_))))
 refine pq (qa (iO 0)) ?_
 refine oE (eS (lR (eR ?_)))
 obtain rfl := sj h
 exact eF1
 replace h := ifF c6 h
 refine pq (qb (p_lss_fZ c6)) ?_
 refine oE (eS (cF rfl (lK (eS (lS (lO ?_))))))
 refine pq (qm (iO n1)) ?_
 refine pq (qb p_addY) ?_
 obtain ⟨n7, h8, h⟩ := bindS h
 refine pq (q_bin rfl rfl (divO_p h8) rfl) ?_
 refine pq (qa (iO n7)) ?_
 refine oE (eS (lR ?_))
 obtain rfl := sj h
 exact eF1

noncomputable def ref03_Has (s1 : Sl (Int)) (n2 : Int) : Option (Bool) :=
  (if n2 ≥ 0 then ((divO .i64 n2 64).bind fun n4 => (if n4 < ((s1.l.length : Nat) : Int) then ((atS 1 s1 n4).bind fun n9 => ((modO n2 64).bind fun n10 => ((shr1 .u64 n9 (IntKind.u64.wrap n10)).bind fun n12 => (if (andI .u64 n12 1) = 1 then some true else some false)))) else some false)) else some false)
theorem ref03_Has_r (m : Nat) {s1 : Sl (Int)} {n2 : Int} {out : Bool} (h : ref03_Has s1 n2 = some out) : RunsP E1 (m + 1) 47 [.one (Sl.t r85 s1), .one (iT .i64 n2)] (.fresh, [.one (bT out)]) := by
 refine fn_F rfl (by rw [E1_fn]; exact show fiOf Tryd.prog 47 = _ by unfold fiOf; rw [Tryd.func47]; unfold Tryd.f47; rfl) rfl ?_
 dsimp only
 unfold ref03_Has at h
 refine lS (lO ?_)
 refine pq (qa bf) ?_
 refine oN ?_
 refine pq (qm (iO n2)) ?_
 by_cases c3 : n2 ≥ 0
 replace h := ifT c3 h
 refine pq (qb (p_geq_tZ c3)) ?_
 refine pq (qm bt) ?_
 refine pq (qm (iO n2)) ?_
 obtain ⟨n4, h5, h⟩ := bindS h
 refine pq (q_bin rfl rfl (divO_p h5) rfl) ?_
 refine pq (qm (.one (sF r85 s1))) ?_
 refine pq (q_lenS rfl ty22 rfl rfl rfl rfl) ?_
 by_cases c6 : n4 < ((s1.l.length : Nat) : Int)
 replace h := ifT c6 h
 refine pq (qb (p_lss_tZ c6)) ?_
 refine pq (qpt bt) ?_
 refine pq (qm bt) ?_
 refine pq (qm (.one (sF r85 s1))) ?_
 refine pq (qm (iO n2)) ?_
 refine pq (q_bin rfl rfl (divO_p h5) rfl) ?_
 obtain ⟨n9, h8, h⟩ := bindS h
 obtain ⟨h8a, h8b, h8⟩ := atS_some h8
 refine pq (q_ixS rfl rfl h8a h8 (el22.trans (congrArg some h8b.symm))) ?_
 refine pq (q_loadI (v := .one (uI n9)) rfl sz85 (map_get h8) rfl rfl) ?_
 refine pq (qm (iO n2)) ?_
 obtain ⟨n10, h11, h⟩ := bindS h
 refine pq (q_bin rfl rfl (modO_p h11) rfl) ?_
 refine pq (q_conv rfl (cv3_97_i64 _) rfl) ?_
 obtain ⟨n12, h13, h⟩ := bindS h
 refine pq (q_bin rfl rfl (p_shr h13) rfl) ?_
 refine pq (q_bin rfl rfl (p_and _ _ _ _ _ _ _) rfl) ?_
 by_cases c14 : (andI .u64 n12 1) = 1
 replace h := ifT c14 h
 refine pq (qb (p_eql_tZ c14)) ?_
 refine pq (qpt bt) ?_
 refine pq (qa bt) ?_
 refine oE (eS (lR ?_))
 obtain rfl := sj h
 exact eF1
 replace h := ifF c14 h
 refine pq (qb (p_eql_fZ c14)) ?_
 refine pq (qpt bf) ?_
 refine pq (qa bf) ?_
 refine oE (eS (lR ?_))
 obtain rfl := sj h
 exact eF1
 replace h := ifF c6 h
 refine pq (qb (p_lss_fZ c6)) ?_
 refine pq (qpt bf) ?_
 refine pq (qm bf) ?_
 iterate 11 refine os ?_
 refine pq (qpf bf) ?_
 refine pq (qa bf) ?_
 refine oE (eS (lR ?_))
 obtain rfl := sj h
 exact eF1
 replace h := ifF c3 h
 refine pq (qb (p_geq_fZ c3)) ?_
 refine pq (qm bf) ?_
 iterate 5 refine os ?_
 refine pq (qpf bf) ?_
 refine pq (qm bf) ?_
 iterate 11 refine os ?_
 refine pq (qpf bf) ?_
 refine pq (qa bf) ?_
 refine oE (eS (lR ?_))
 obtain rfl := sj h
 exact eF1

noncomputable def ref03_New (n1 : Int) : Option (List (Int)) :=
  ((ref03_words n1).bind fun n3 => ((lenOk n3).bind fun _ => some (List.replicate n3.toNat (0 : Int))))
theorem ref03_New_r (m : Nat) {n1 : Int} {out : List (Int)} (h : ref03_New n1 = some out) : RunsP E1 (m + 2) 60 [.one (iT .i64 n1)] (.own, [.one (.s true 1 ((out).map r85))]) := by
 refine fn_O rfl (by rw [E1_fn]; exact show fiOf Tryd.prog 60 = _ by unfold fiOf; rw [Tryd.func60]; unfold Tryd.f60; rfl) rfl ?_
 dsimp only
 unfold ref03_New at h
 refine lS (lO ?_)
 refine pq (qa (.one nC)) ?_
 refine oN ?_
 refine pq (qm (iO n1)) ?_
 obtain ⟨n3, h2, h⟩ := bindS h
 refine pq (qc (iO n3) [iO n1] (ref03_words_r (m + 0) h2) (vw_cons (vd_one vc_v) vw_nil)) ?_
 obtain ⟨u4, h5, h⟩ := bindS h
 refine ol_new rfl rfl rfl (q_mkslice (r := rowC r85) (a := (0 : Int)) ty22 rfl ty85 rfl rfl (lenOk_some h5).1 (lenOk_some h5).2 rfl rfl) (fun k6 => ?_)
 refine pq (qa (.one (.own k6 0 ((List.replicate n3.toNat (0 : Int))).length))) ?_
 refine oE (eS (lR ?_))
 obtain rfl := sj h
 exact E_endO (r := r85) 0 (.inr rfl) (res_tmp rfl res_nil) rfl (fun x h m => rfl) (fun x => rfl)

noncomputable def ref03_set (s1 : Sl (Int)) (n2 : Int) (b3 : Bool) : Option (List (Int)) :=
  ((app ([] : List (Int)) s1.l).bind fun _ => (if n2 < 0 then some (([] : List (Int)) ++ s1.l) else ((divO .i64 n2 64).bind fun n8 => (if n8 ≥ ((s1.l.length : Nat) : Int) then some (([] : List (Int)) ++ s1.l) else ((modO n2 64).bind fun n11 => ((shl1 .u64 1 (IntKind.u64.wrap n11)).bind fun n13 => (if b3 = true then ((atS 1 (mo 1 (([] : List (Int)) ++ s1.l)) n8).bind fun n20 => some ((([] : List (Int)) ++ s1.l).set n8.toNat (orI .u64 n20 n13))) else ((atS 1 (mo 1 (([] : List (Int)) ++ s1.l)) n8).bind fun n17 => some ((([] : List (Int)) ++ s1.l).set n8.toNat (andNotI .u64 n17 n13))))))))))
theorem ref03_set_r (m : Nat) {s1 : Sl (Int)} {n2 : Int} {b3 : Bool} {out : List (Int)} (h : ref03_set s1 n2 b3 = some out) : RunsP E1 (m + 1) 101 [.one (Sl.t r85 s1), .one (iT .i64 n2), .one (bT b3)] (resM 1 r85 out) := by
 refine fn_M rfl (by rw [E1_fn]; exact show fiOf Tryd.prog 101 = _ by unfold fiOf; rw [Tryd.func101]; unfold Tryd.f101; rfl) rfl ?_
 dsimp only
 unfold ref03_set at h
 refine lS (lO ?_)
 refine pq (qa (.one nC)) ?_
 refine oN ?_
 refine pq (qa (.one nC)) ?_
 refine oN ?_
 refine pq (qm (.one nC)) ?_
 refine pq (qm (.one (sF r85 s1))) ?_
 refine ol_addM (α := Int) r85 1 ?_
 obtain ⟨_, h4, h⟩ := bindS h
 obtain ⟨h4b, rfl⟩ := app_some h4
 refine ol_appM (r := r85) (l := ([] : List (Int))) (ys := s1.l) 0 rfl rfl rfl rfl rfl rfl (el_dat (fr := false) (r := r85) (fun x => rfl)) rfl h4 (fun y => rfl) el22 ty22 rfl rfl rfl rfl rfl (fun k6 => ?_)
 refine pq (qa (.one (moC (([] : List (Int)) ++ s1.l) k6))) ?_
 refine oE (eS (lS (lS (lO ?_))))
 refine pq (qm (iO n2)) ?_
 by_cases c7 : n2 < 0
 replace h := ifT c7 h
 refine pq (qb (p_lss_tZ c7)) ?_
 refine pq (qm bt) ?_
 iterate 5 refine os ?_
 refine pq (qpt bt) ?_
 refine oE (eS (cT rfl (lS (lO ?_))))
 refine pq (qm (.one (moC (([] : List (Int)) ++ s1.l) k6))) ?_
 refine pq (qa (.one (moC (([] : List (Int)) ++ s1.l) k6))) ?_
 refine oE (eS (lR (eR ?_)))
 obtain rfl := sj h
 exact E_endM (r := r85) 0 (.inr rfl) (res_tmp rfl res_nil) rfl (fun x h m => rfl) (fun x => rfl)
 replace h := ifF c7 h
 refine pq (qb (p_lss_fZ c7)) ?_
 refine pq (qm bf) ?_
 refine pq (qm (iO n2)) ?_
 obtain ⟨n8, h9, h⟩ := bindS h
 refine pq (q_bin rfl rfl (divO_p h9) rfl) ?_
 refine pq (qm (.one (sF r85 s1))) ?_
 refine pq (q_lenS rfl ty22 rfl rfl rfl rfl) ?_
 by_cases c10 : n8 ≥ ((s1.l.length : Nat) : Int)
 replace h := ifT c10 h
 refine pq (qb (p_geq_tZ c10)) ?_
 refine pq (qpf bt) ?_
 refine oE (eS (cT rfl (lS (lO ?_))))
 refine pq (qm (.one (moC (([] : List (Int)) ++ s1.l) k6))) ?_
 refine pq (qa (.one (moC (([] : List (Int)) ++ s1.l) k6))) ?_
 refine oE (eS (lR (eR ?_)))
 obtain rfl := sj h
 exact E_endM (r := r85) 0 (.inr rfl) (res_tmp rfl res_nil) rfl (fun x h m => rfl) (fun x => rfl)
 replace h := ifF c10 h
 refine pq (qb (p_geq_fZ c10)) ?_
 refine pq (qpf bf) ?_
 refine oE (eS (cF rfl (lK (eS (lS (lO ?_))))))
 refine pq (qm (iO n2)) ?_
 obtain ⟨n11, h12, h⟩ := bindS h
 refine pq (q_bin rfl rfl (modO_p h12) rfl) ?_
 refine pq (q_conv rfl (cv3_97_i64 _) rfl) ?_
 obtain ⟨n13, h14, h⟩ := bindS h
 refine pq (q_bin rfl rfl (p_shl h14) rfl) ?_
 refine pq (qa (.one (uI n13))) ?_
 refine oE (eS (lS (lS (lO ?_))))
 refine pq (qm (bO b3)) ?_
 refine oE (eS ?_)
 rcases b3 with _ | _
 replace h := wF h
 refine cF rfl (lO ?_)
 refine pq (qm (.one (moC (([] : List (Int)) ++ s1.l) k6))) ?_
 refine pq (qm (iO n2)) ?_
 refine pq (q_bin rfl rfl (divO_p h9) rfl) ?_
 refine pq (qm (.one (moC (([] : List (Int)) ++ s1.l) k6))) ?_
 refine pq (qm (iO n2)) ?_
 refine pq (q_bin rfl rfl (divO_p h9) rfl) ?_
 obtain ⟨n17, h16, h⟩ := bindS h
 obtain ⟨h16a, h16⟩ := atM_some h16
 refine pq (q_ixM (r := r85) 0 rfl rfl h16a h16 rfl el22) ?_
 refine pq (q_loadP (v := .one (uI n17)) 0 rfl sz85 (segM (r := r85) rfl h16) (map_get h16) rfl rfl) ?_
 refine pq (qm (.one (uI n13))) ?_
 refine pq (q_bin rfl rfl (p_andNot _ _ _ _ _ _ _) rfl) ?_
 refine pq (q_ixM (r := r85) 0 rfl rfl h16a h16 rfl el22) ?_
 refine ol_wr rfl rfl (q_store (e' := rowC r85 (andNotI .u64 n17 n13)) (es' := (((([] : List (Int)) ++ s1.l).set n8.toNat (andNotI .u64 n17 n13))).map (rowC r85)) 0 rfl rfl rfl sz85 rfl (segM (r := r85) rfl h16) (map_get h16) rfl map_set) (congrArg (fun z => List.set _ 0 z) (setM (r := r85) h16)) ?_
 refine ol_re 7 (v := .one (moC ((([] : List (Int)) ++ s1.l).set n8.toNat (andNotI .u64 n17 n13)) k6)) (Eq.trans (b := .one (moC (([] : List (Int)) ++ s1.l) k6)) rfl (congrArg D.one moC_set)) ?_
 refine ol_re 11 (v := .one (moC ((([] : List (Int)) ++ s1.l).set n8.toNat (andNotI .u64 n17 n13)) k6)) (Eq.trans (b := .one (moC (([] : List (Int)) ++ s1.l) k6)) rfl (congrArg D.one moC_set)) ?_
 refine ol_re 38 (v := .one (moC ((([] : List (Int)) ++ s1.l).set n8.toNat (andNotI .u64 n17 n13)) k6)) (Eq.trans (b := .one (moC (([] : List (Int)) ++ s1.l) k6)) rfl (congrArg D.one moC_set)) ?_
 refine ol_re 41 (v := .one (moC ((([] : List (Int)) ++ s1.l).set n8.toNat (andNotI .u64 n17 n13)) k6)) (Eq.trans (b := .one (moC (([] : List (Int)) ++ s1.l) k6)) rfl (congrArg D.one moC_set)) ?_
 refine oN ?_
 refine pq (qm (.one (moC ((([] : List (Int)) ++ s1.l).set n8.toNat (andNotI .u64 n17 n13)) k6))) ?_
 refine pq (qa (.one (moC ((([] : List (Int)) ++ s1.l).set n8.toNat (andNotI .u64 n17 n13)) k6))) ?_
 refine oE (eS (lR ?_))
 obtain rfl := sj h
 exact E_endM (r := r85) 0 (.inr rfl) (res_tmp rfl res_nil) rfl (fun x h m => rfl) (fun x => rfl)
 replace h := wT h
 refine cT rfl (lO ?_)
 refine pq (qm (.one (moC (([] : List (Int)) ++ s1.l) k6))) ?_
 refine pq (qm (iO n2)) ?_
 refine pq (q_bin rfl rfl (divO_p h9) rfl) ?_
 refine pq (qm (.one (moC (([] : List (Int)) ++ s1.l) k6))) ?_
 refine pq (qm (iO n2)) ?_
 refine pq (q_bin rfl rfl (divO_p h9) rfl) ?_
 obtain ⟨n20, h19, h⟩ := bindS h
 obtain ⟨h19a, h19⟩ := atM_some h19
 refine pq (q_ixM (r := r85) 0 rfl rfl h19a h19 rfl el22) ?_
 refine pq (q_loadP (v := .one (uI n20)) 0 rfl sz85 (segM (r := r85) rfl h19) (map_get h19) rfl rfl) ?_
 refine pq (qm (.one (uI n13))) ?_
 refine pq (q_bin rfl rfl (p_or _ _ _ _ _ _ _) rfl) ?_
 refine pq (q_ixM (r := r85) 0 rfl rfl h19a h19 rfl el22) ?_
 refine ol_wr rfl rfl (q_store (e' := rowC r85 (orI .u64 n20 n13)) (es' := (((([] : List (Int)) ++ s1.l).set n8.toNat (orI .u64 n20 n13))).map (rowC r85)) 0 rfl rfl rfl sz85 rfl (segM (r := r85) rfl h19) (map_get h19) rfl map_set) (congrArg (fun z => List.set _ 0 z) (setM (r := r85) h19)) ?_
 refine ol_re 7 (v := .one (moC ((([] : List (Int)) ++ s1.l).set n8.toNat (orI .u64 n20 n13)) k6)) (Eq.trans (b := .one (moC (([] : List (Int)) ++ s1.l) k6)) rfl (congrArg D.one moC_set)) ?_
 refine ol_re 11 (v := .one (moC ((([] : List (Int)) ++ s1.l).set n8.toNat (orI .u64 n20 n13)) k6)) (Eq.trans (b := .one (moC (([] : List (Int)) ++ s1.l) k6)) rfl (congrArg D.one moC_set)) ?_
 refine ol_re 27 (v := .one (moC ((([] : List (Int)) ++ s1.l).set n8.toNat (orI .u64 n20 n13)) k6)) (Eq.trans (b := .one (moC (([] : List (Int)) ++ s1.l) k6)) rfl (congrArg D.one moC_set)) ?_
 refine ol_re 30 (v := .one (moC ((([] : List (Int)) ++ s1.l).set n8.toNat (orI .u64 n20 n13)) k6)) (Eq.trans (b := .one (moC (([] : List (Int)) ++ s1.l) k6)) rfl (congrArg D.one moC_set)) ?_
 refine oN ?_
 refine pq (qm (.one (moC ((([] : List (Int)) ++ s1.l).set n8.toNat (orI .u64 n20 n13)) k6))) ?_
 refine pq (qa (.one (moC ((([] : List (Int)) ++ s1.l).set n8.toNat (orI .u64 n20 n13)) k6))) ?_
 refine oE (eS (lR ?_))
 obtain rfl := sj h
 exact E_endM (r := r85) 0 (.inr rfl) (res_tmp rfl res_nil) rfl (fun x h m => rfl) (fun x => rfl)

noncomputable def ref03_Put (s1 : Sl (Int)) (n2 : Int) : Option (List (Int)) :=
  ((ref03_set s1 n2 true).bind fun s4 => some s4)
theorem ref03_Put_r (m : Nat) {s1 : Sl (Int)} {n2 : Int} {out : List (Int)} (h : ref03_Put s1 n2 = some out) : RunsP E1 (m + 2) 80 [.one (Sl.t r85 s1), .one (iT .i64 n2)] (resM 1 r85 out) := by
 refine fn_M rfl (by rw [E1_fn]; exact show fiOf Tryd.prog 80 = _ by unfold fiOf; rw [Tryd.func80]; unfold Tryd.f80; rfl) rfl ?_
 dsimp only
 unfold ref03_Put at h
 refine lS (lO ?_)
 refine pq (qa (.one nC)) ?_
 refine oN ?_
 refine pq (qm (.one (sF r85 s1))) ?_
 refine pq (qm (iO n2)) ?_
 obtain ⟨s4, h3, h⟩ := bindS h
 refine ol_callM (r := r85) (l := s4) (args := [.one (sF r85 s1), iO n2, bt]) (ref03_set_r (m + 0) h3) rfl rfl rfl rfl rfl rfl (vw_cons (vd_one vc_s) (vw_cons (vd_one vc_v) (vw_cons (vd_one vc_v) vw_nil))) rfl (fun k5 => ?_)
 refine pq (qa (.one (moC s4 k5))) ?_
 refine oE (eS (lR ?_))
 obtain rfl := sj h
 exact E_endM (r := r85) 0 (.inr rfl) (res_tmp rfl res_nil) rfl (fun x h m => rfl) (fun x => rfl)

noncomputable def devec_Get (a0 : Int × Sl (Int) × Sl (Int)) (n4 : Int) : Option (Int × Bool) :=
  match a0 with
  | (n1, s2, s3) => ((devec_sure (n1, s2, s3)).bind fun (n7, s8, s9) => ((flags_Has s8 n4).bind fun b12 => (if b12 = true then ((atS 1 s9 n4).bind fun n15 => some (n15, true)) else some (0, false))))
theorem devec_Get_r (m : Nat) {a0 : Int × Sl (Int) × Sl (Int)} {n4 : Int} {out : Int × Bool} (h : devec_Get a0 n4 = some out) : RunsP E1 (m + 7) 22 [.agg (r24 a0), .one (iT .i64 n4)] (.fresh, [.one (iT .i64 out.1), .one (bT out.2)]) := by
 obtain ⟨n1, s2, s3⟩ := a0
 refine fn_F rfl (by rw [E1_fn]; exact show fiOf Tryd.prog 22 = _ by unfold fiOf; rw [Tryd.func22]; unfold Tryd.f22; rfl) rfl ?_
 dsimp only
 unfold devec_Get at h
 refine lS (lO ?_)
 refine ol_new rfl rfl rfl (q_box ty25 rfl (cs := [iI n1, sF r85 s2, sF r2 s3]) rfl rfl) (fun k5 => ?_)
 refine pq (qa (iO 0)) ?_
 refine pq (qa bf) ?_
 refine oN ?_
 refine pq (ql (.agg [iI n1, sF r85 s2, sF r2 s3]) 0 sz25) ?_
 obtain ⟨⟨n7, s8, s9⟩, h6, h⟩ := bindS h
 refine ol_putX rfl rfl rfl (q_callX (v := fun fr10 => .agg [iI n7, .p fr10 (Sl.t r85 s8), .p fr10 (Sl.t r2 s9)]) (args := [.agg [iI n1, sF r85 s2, sF r2 s3]]) (devec_sure_r (m + 0) h6) rfl rfl (vw_cons (vd_agg (vc_cons vc_v (vc_cons vc_s (vc_cons vc_s vc_nil)))) vw_nil) rfl rfl (fun fr => rfl)) (fun fr10 => ?_)
 refine ow [[iI n7, .p fr10 (Sl.t r85 s8), .p fr10 (Sl.t r2 s9)]] 0 sz25 ?_
 refine oE (eS (lS (lS (lO ?_))))
 refine pq (q_fieldP rfl fa25_1 rfl) ?_
 refine pq (ql (.one (.p fr10 (Sl.t r85 s8))) 0 sz22) ?_
 refine pq (qm (iO n4)) ?_
 obtain ⟨b12, h11, h⟩ := bindS h
 refine pq (qc (bO b12) [.one (.p fr10 (Sl.t r85 s8)), iO n4] (flags_Has_r (m + 4) h11) (vw_cons (vd_one vc_s) (vw_cons (vd_one vc_v) vw_nil))) ?_
 rcases b12 with _ | _
 replace h := wF h
 refine pq (q_not rfl) ?_
 refine oE (eS (cT rfl (lS (lO ?_))))
 refine pq (qa (iO 0)) ?_
 refine pq (qa bf) ?_
 refine oE (eS (lR (eR ?_)))
 obtain rfl := sj h
 exact E_endF (.inr rfl) (res_tmp rfl (res_tmp rfl res_nil)) (vw_cons (vd_one vc_v) (vw_cons (vd_one vc_v) vw_nil)) oW rfl rfl
 replace h := wT h
 refine pq (q_not rfl) ?_
 refine oE (eS (cF rfl (lK (eS (lS (lO ?_))))))
 refine pq (q_fieldP rfl fa25_2 rfl) ?_
 refine pq (ql (.one (.p fr10 (Sl.t r2 s9))) 0 sz23) ?_
 refine pq (qm (iO n4)) ?_
 obtain ⟨n15, h14, h⟩ := bindS h
 obtain ⟨h14a, h14b, h14⟩ := atS_some h14
 refine pq (q_ixS rfl rfl h14a h14 (el23.trans (congrArg some h14b.symm))) ?_
 refine pq (q_loadI (v := iO n15) rfl sz2 (map_get h14) rfl rfl) ?_
 refine pq (qa (iO n15)) ?_
 refine pq (qa bt) ?_
 refine oE (eS (lR ?_))
 obtain rfl := sj h
 exact E_endF (.inr rfl) (res_tmp rfl (res_tmp rfl res_nil)) (vw_cons (vd_one vc_v) (vw_cons (vd_one vc_v) vw_nil)) oW rfl rfl

noncomputable def flags_Both_c1 (n1 : Int) (n2 : Int) : Option (Int) :=
  some (andI .u64 n1 n2)
theorem flags_Both_c1_r (m : Nat) {n1 : Int} {n2 : Int} {out : Int} (h : flags_Both_c1 n1 n2 = some out) : RunsP E1 (m + 1) 93 [.one (iT .u64 n1), .one (iT .u64 n2)] (.fresh, [.one (iT .u64 out)]) := by
 refine fn_F rfl (by rw [E1_fn]; exact show fiOf Tryd.prog 93 = _ by unfold fiOf; rw [Tryd.func93]; unfold Tryd.f93; rfl) rfl ?_
 dsimp only
 unfold flags_Both_c1 at h
 refine lS (lO ?_)
 refine pq (qa (.one (uI 0))) ?_
 refine oN ?_
 refine pq (qm (.one (uI n1))) ?_
 refine pq (qm (.one (uI n2))) ?_
 refine pq (q_bin rfl rfl (p_and _ _ _ _ _ _ _) rfl) ?_
 refine pq (qa (.one (uI (andI .u64 n1 n2)))) ?_
 refine oE (eS (lR ?_))
 obtain rfl := sj h
 exact eF1

noncomputable def flags_Both_b1 (s1 : Sl (Int)) (s2 : Sl (Int)) (a : List (Int) × Int) : Option ((List (Int) × Int) ⊕ ((List (Int)) ⊕ Empty)) :=
  match a with
  | (l75, n76) => (if n76 < (((List.replicate ((s1.l.length : Nat) : Int).toNat (0 : Int)).length : Nat) : Int) then (if n76 < ((s1.l.length : Nat) : Int) then ((atS 1 s1 n76).bind fun n82 => (if n76 < ((s2.l.length : Nat) : Int) then ((atS 1 s2 n76).bind fun n86 => ((flags_Both_c1 n82 n86).bind fun n88 => ((atL l75 n76).bind fun n91 => some (.inl ((l75.set n76.toNat n88), (IntKind.i64.wrap (n76 + 1))))))) else ((flags_Both_c1 n82 0).bind fun n93 => ((atL l75 n76).bind fun n96 => some (.inl ((l75.set n76.toNat n93), (IntKind.i64.wrap (n76 + 1)))))))) else (if n76 < ((s2.l.length : Nat) : Int) then ((atS 1 s2 n76).bind fun n100 => ((flags_Both_c1 0 n100).bind fun n102 => ((atL l75 n76).bind fun n105 => some (.inl ((l75.set n76.toNat n102), (IntKind.i64.wrap (n76 + 1))))))) else ((flags_Both_c1 0 0).bind fun n107 => ((atL l75 n76).bind fun n110 => some (.inl ((l75.set n76.toNat n107), (IntKind.i64.wrap (n76 + 1)))))))) else some (.inr (.inl l75)))
noncomputable def flags_Both (s1 : Sl (Int)) (s2 : Sl (Int)) : Option (List (Int)) :=
  ((lenOk ((s1.l.length : Nat) : Int)).bind fun _ => ((loopO (flags_Both_b1 s1 s2) ((List.replicate ((s1.l.length : Nat) : Int).toNat (0 : Int)), 0)).bind (Sum.elim (fun l111 => some l111) (fun u => u.elim))))
theorem flags_Both_r (m : Nat) {s1 : Sl (Int)} {s2 : Sl (Int)} {out : List (Int)} (h : flags_Both s1 s2 = some out) : RunsP E1 (m + 3) 68 [.one (Sl.t r85 s1), .one (Sl.t r85 s2)] (.own, [.one (.s true 1 ((out).map r85))]) := by
 refine fn_O rfl (by rw [E1_fn]; exact show fiOf Tryd.prog 68 = _ by unfold fiOf; rw [Tryd.func68]; unfold Tryd.f68; rfl) rfl ?_
 dsimp only
 unfold flags_Both at h
 refine lS (lO ?_)
 refine pq (qa (.one nC)) ?_
 refine oN ?_
 refine pq (qm (.one (sF r85 s1))) ?_
 refine pq (qm (.one (sF r85 s2))) ?_
 refine pq (qm (.one (sF r85 s1))) ?_
 refine pq (q_lenS rfl ty22 rfl rfl rfl rfl) ?_
 refine ol_scallN (args := [.one (sF r85 s1), .one (sF r85 s2), .one (iI ((s1.l.length : Nat) : Int)), .one (.p true (.v (.func (.func 93) #[] #[])))]) rfl rfl rfl ax92 (by rw [E1_fn]; exact show fiOf Tryd.prog 92 = _ by unfold fiOf; rw [Tryd.func92]; unfold Tryd.f92; rfl) rfl rfl rfl ?_
 dsimp only
 refine lS (lO ?_)
 refine pq (qa (.one nC)) ?_
 refine oN ?_
 refine pq (qm (iO ((s1.l.length : Nat) : Int))) ?_
 obtain ⟨u3, h4, h⟩ := bindS h
 refine ol_new rfl rfl rfl (q_mkslice (r := rowC r85) (a := (0 : Int)) ty22 rfl ty85 rfl rfl (lenOk_some h4).1 (lenOk_some h4).2 rfl rfl) (fun k5 => ?_)
 refine pq (qa (.one (.own k5 0 ((List.replicate ((s1.l.length : Nat) : Int).toNat (0 : Int))).length))) ?_
 refine oE (eS (lS (lS (lO ?_))))
 refine pq (qm (.one (.own k5 0 ((List.replicate ((s1.l.length : Nat) : Int).toNat (0 : Int))).length))) ?_
 refine pq (q_lenO rfl ty22 rfl rfl rfl rfl) ?_
 refine pq (qm (iO 0)) ?_
 refine oE (eS (lB ?_))
 let S1 : (List (Int) × Int) → Nat → (Nat → D) → Nat → D := fun a kt g => ups g [(0, .one (sF r85 s1)), (1, .one (sF r85 s2)), (3, .one (.p true (.v (.func (.func 93) #[] #[])))), (9, .one (.own kt 0 (a.1).length)), (16, .one (iI (((List.replicate ((s1.l.length : Nat) : Int).toNat (0 : Int)).length : Nat) : Int))), (17, .one (iI a.2))]
 let SL1 : (List (Int) × Int) → Nat → BL := fun a kt => ([[(kt, 1, (a.1).map (rowC r85))]] : BL)
 let G1 : Empty → Ex → St → Prop := fun u => u.elim
 let Sx1 : (List (Int)) → Nat → (Nat → D) → Nat → D := fun a kt g => ups g [(9, .one (.own kt 0 (a).length))]
 let SLx1 : (List (Int)) → Nat → BL := fun a kt => ([[(kt, 1, (a).map (rowC r85))]] : BL)
 let J1 : ((List (Int)) ⊕ Empty) → Ex → St → Prop := JX 45 0 Sx1 SLx1 G1
 refine L_loopS (flags_Both_b1 s1 s2) S1 SL1 J1 JX_n ((List.replicate ((s1.l.length : Nat) : Int).toNat (0 : Int)), 0) h k5 (ups_self ⟨rfl, rfl, rfl, rfl, rfl, rfl, trivial⟩) [0] (by decide) rfl ?_ ?_
 rintro ⟨l75, n76⟩ k77 g out h
 change flags_Both_b1 s1 s2 (l75, n76) = some out at h
 unfold flags_Both_b1 at h
 refine lS (lO ?_)
 by_cases c78 : n76 < (((List.replicate ((s1.l.length : Nat) : Int).toNat (0 : Int)).length : Nat) : Int)
 replace h := ifT c78 h
 refine pq (qb (p_lss_tZ c78)) ?_
 refine oE (eS (lS (cT rfl (lK (eS (lS (lB (lS (lO ?_)))))))))
 refine pq (qm (iO n76)) ?_
 refine pq (qa (iO n76)) ?_
 refine oN ?_
 refine pq (qa (.one (uI 0))) ?_
 refine pq (qa (.one (uI 0))) ?_
 refine oE (eS (lS (lS (lO ?_))))
 refine pq (qm (iO n76)) ?_
 refine pq (qm (.one (sF r85 s1))) ?_
 refine pq (q_lenS rfl ty22 rfl rfl rfl rfl) ?_
 by_cases c79 : n76 < ((s1.l.length : Nat) : Int)
 replace h := ifT c79 h
 refine pq (qb (p_lss_tZ c79)) ?_
 refine oE (eS (cT rfl (lO ?_)))
 refine pq (qm (.one (sF r85 s1))) ?_
 refine pq (qm (iO n76)) ?_
 obtain ⟨n82, h81, h⟩ := bindS h
 obtain ⟨h81a, h81b, h81⟩ := atS_some h81
 refine pq (q_ixS rfl rfl h81a h81 (el22.trans (congrArg some h81b.symm))) ?_
 refine pq (q_loadI (v := .one (uI n82)) rfl sz85 (map_get h81) rfl rfl) ?_
 refine pq (qa (.one (uI n82))) ?_
 refine oE (eS (lS (lS (lO ?_))))
 refine pq (qm (iO n76)) ?_
 refine pq (qm (.one (sF r85 s2))) ?_
 refine pq (q_lenS rfl ty22 rfl rfl rfl rfl) ?_
 by_cases c83 : n76 < ((s2.l.length : Nat) : Int)
 replace h := ifT c83 h
 refine pq (qb (p_lss_tZ c83)) ?_
 refine oE (eS (cT rfl (lO ?_)))
 refine pq (qm (.one (sF r85 s2))) ?_
 refine pq (qm (iO n76)) ?_
 obtain ⟨n86, h85, h⟩ := bindS h
 obtain ⟨h85a, h85b, h85⟩ := atS_some h85
 refine pq (q_ixS rfl rfl h85a h85 (el22.trans (congrArg some h85b.symm))) ?_
 refine pq (q_loadI (v := .one (uI n86)) rfl sz85 (map_get h85) rfl rfl) ?_
 refine pq (qa (.one (uI n86))) ?_
 refine oR ?_
 refine pq (qm (.one (.own k77 0 (l75).length))) ?_
 refine pq (qm (iO n76)) ?_
 refine pq (qm (.one (.p true (.v (.func (.func 93) #[] #[]))))) ?_
 refine pq (qm (.one (uI n82))) ?_
 refine pq (qm (.one (uI n86))) ?_
 obtain ⟨n88, h87, h⟩ := bindS h
 refine pq (qc (.one (uI n88)) [.one (uI n82), .one (uI n86)] (flags_Both_c1_r (m + 0) h87) (vw_cons (vd_one vc_v) (vw_cons (vd_one vc_v) vw_nil))) ?_
 obtain ⟨n91, h90, h⟩ := bindS h
 obtain ⟨h90a, h90⟩ := atL_some h90
 refine pq (q_ixO 0 rfl rfl h90a h90 rfl el22) ?_
 refine ol_wr rfl rfl (q_store (e' := rowC r85 n88) (es' := ((l75.set n76.toNat n88)).map (rowC r85)) 0 rfl rfl rfl sz85 rfl rfl (map_get h90) rfl map_set) rfl ?_
 refine ol_re 9 (v := .one (.own k77 0 ((l75.set n76.toNat n88)).length)) (Eq.trans (b := .one (.own k77 0 (l75).length)) rfl (congrArg D.one own_setC)) ?_
 refine ol_re 36 (v := .one (.own k77 0 ((l75.set n76.toNat n88)).length)) (Eq.trans (b := .one (.own k77 0 (l75).length)) rfl (congrArg D.one own_setC)) ?_
 refine oE (bN (eS (lO ?_)))
 refine pq (qb p_addY) ?_
 refine pq (qm (iO (IntKind.i64.wrap (n76 + 1)))) ?_
 refine oE ?_
 obtain rfl := sj h
 exact E_next k77 (ups_self ⟨rfl, rfl, rfl, rfl, rfl, rfl, trivial⟩) [0] (by decide) rfl
 replace h := ifF c83 h
 refine pq (qb (p_lss_fZ c83)) ?_
 refine oE (eS (cF rfl (lK (eS (lO ?_)))))
 refine pq (qm (.one (.own k77 0 (l75).length))) ?_
 refine pq (qm (iO n76)) ?_
 refine pq (qm (.one (.p true (.v (.func (.func 93) #[] #[]))))) ?_
 refine pq (qm (.one (uI n82))) ?_
 refine pq (qm (.one (uI 0))) ?_
 obtain ⟨n93, h92, h⟩ := bindS h
 refine pq (qc (.one (uI n93)) [.one (uI n82), .one (uI 0)] (flags_Both_c1_r (m + 0) h92) (vw_cons (vd_one vc_v) (vw_cons (vd_one vc_v) vw_nil))) ?_
 obtain ⟨n96, h95, h⟩ := bindS h
 obtain ⟨h95a, h95⟩ := atL_some h95
 refine pq (q_ixO 0 rfl rfl h95a h95 rfl el22) ?_
 refine ol_wr rfl rfl (q_store (e' := rowC r85 n93) (es' := ((l75.set n76.toNat n93)).map (rowC r85)) 0 rfl rfl rfl sz85 rfl rfl (map_get h95) rfl map_set) rfl ?_
 refine ol_re 9 (v := .one (.own k77 0 ((l75.set n76.toNat n93)).length)) (Eq.trans (b := .one (.own k77 0 (l75).length)) rfl (congrArg D.one own_setC)) ?_
 refine ol_re 36 (v := .one (.own k77 0 ((l75.set n76.toNat n93)).length)) (Eq.trans (b := .one (.own k77 0 (l75).length)) rfl (congrArg D.one own_setC)) ?_
 refine oE (bN (eS (lO ?_)))
 refine pq (qb p_addY) ?_
 refine pq (qm (iO (IntKind.i64.wrap (n76 + 1)))) ?_
 refine oE ?_
 obtain rfl := sj h
 exact E_next k77 (ups_self ⟨rfl, rfl, rfl, rfl, rfl, rfl, trivial⟩) [0] (by decide) rfl
 replace h := ifF c79 h
 refine pq (qb (p_lss_fZ c79)) ?_
 refine oE (eS (cF rfl (lK (eS (lS (lS (lO ?_)))))))
 refine pq (qm (iO n76)) ?_
 refine pq (qm (.one (sF r85 s2))) ?_
 refine pq (q_lenS rfl ty22 rfl rfl rfl rfl) ?_
 by_cases c97 : n76 < ((s2.l.length : Nat) : Int)
 replace h := ifT c97 h
 refine pq (qb (p_lss_tZ c97)) ?_
 refine oE (eS (cT rfl (lO ?_)))
 refine pq (qm (.one (sF r85 s2))) ?_
 refine pq (qm (iO n76)) ?_
 obtain ⟨n100, h99, h⟩ := bindS h
 obtain ⟨h99a, h99b, h99⟩ := atS_some h99
 refine pq (q_ixS rfl rfl h99a h99 (el22.trans (congrArg some h99b.symm))) ?_
 refine pq (q_loadI (v := .one (uI n100)) rfl sz85 (map_get h99) rfl rfl) ?_
 refine pq (qa (.one (uI n100))) ?_
 refine oR ?_
 refine pq (qm (.one (.own k77 0 (l75).length))) ?_
 refine pq (qm (iO n76)) ?_
 refine pq (qm (.one (.p true (.v (.func (.func 93) #[] #[]))))) ?_
 refine pq (qm (.one (uI 0))) ?_
 refine pq (qm (.one (uI n100))) ?_
 obtain ⟨n102, h101, h⟩ := bindS h
 refine pq (qc (.one (uI n102)) [.one (uI 0), .one (uI n100)] (flags_Both_c1_r (m + 0) h101) (vw_cons (vd_one vc_v) (vw_cons (vd_one vc_v) vw_nil))) ?_
 obtain ⟨n105, h104, h⟩ := bindS h
 obtain ⟨h104a, h104⟩ := atL_some h104
 refine pq (q_ixO 0 rfl rfl h104a h104 rfl el22) ?_
 refine ol_wr rfl rfl (q_store (e' := rowC r85 n102) (es' := ((l75.set n76.toNat n102)).map (rowC r85)) 0 rfl rfl rfl sz85 rfl rfl (map_get h104) rfl map_set) rfl ?_
 refine ol_re 9 (v := .one (.own k77 0 ((l75.set n76.toNat n102)).length)) (Eq.trans (b := .one (.own k77 0 (l75).length)) rfl (congrArg D.one own_setC)) ?_
 refine ol_re 36 (v := .one (.own k77 0 ((l75.set n76.toNat n102)).length)) (Eq.trans (b := .one (.own k77 0 (l75).length)) rfl (congrArg D.one own_setC)) ?_
 refine oE (bN (eS (lO ?_)))
 refine pq (qb p_addY) ?_
 refine pq (qm (iO (IntKind.i64.wrap (n76 + 1)))) ?_
 refine oE ?_
 obtain rfl := sj h
 exact E_next k77 (ups_self ⟨rfl, rfl, rfl, rfl, rfl, rfl, trivial⟩) [0] (by decide) rfl
 replace h := ifF c97 h
 refine pq (qb (p_lss_fZ c97)) ?_
 refine oE (eS (cF rfl (lK (eS (lO ?_)))))
 refine pq (qm (.one (.own k77 0 (l75).length))) ?_
 refine pq (qm (iO n76)) ?_
 refine pq (qm (.one (.p true (.v (.func (.func 93) #[] #[]))))) ?_
 refine pq (qm (.one (uI 0))) ?_
 refine pq (qm (.one (uI 0))) ?_
 obtain ⟨n107, h106, h⟩ := bindS h
 refine pq (qc (.one (uI n107)) [.one (uI 0), .one (uI 0)] (flags_Both_c1_r (m + 0) h106) (vw_cons (vd_one vc_v) (vw_cons (vd_one vc_v) vw_nil))) ?_
 obtain ⟨n110, h109, h⟩ := bindS h
 obtain ⟨h109a, h109⟩ := atL_some h109
 refine pq (q_ixO 0 rfl rfl h109a h109 rfl el22) ?_
 refine ol_wr rfl rfl (q_store (e' := rowC r85 n107) (es' := ((l75.set n76.toNat n107)).map (rowC r85)) 0 rfl rfl rfl sz85 rfl rfl (map_get h109) rfl map_set) rfl ?_
 refine ol_re 9 (v := .one (.own k77 0 ((l75.set n76.toNat n107)).length)) (Eq.trans (b := .one (.own k77 0 (l75).length)) rfl (congrArg D.one own_setC)) ?_
 refine ol_re 36 (v := .one (.own k77 0 ((l75.set n76.toNat n107)).length)) (Eq.trans (b := .one (.own k77 0 (l75).length)) rfl (congrArg D.one own_setC)) ?_
 refine oE (bN (eS (lO ?_)))
 refine pq (qb p_addY) ?_
 refine pq (qm (iO (IntKind.i64.wrap (n76 + 1)))) ?_
 refine oE ?_
 obtain rfl := sj h
 exact E_next k77 (ups_self ⟨rfl, rfl, rfl, rfl, rfl, rfl, trivial⟩) [0] (by decide) rfl
 replace h := ifF c78 h
 refine pq (qb (p_lss_fZ c78)) ?_
 refine oE (eS (lS (cF rfl (L_exit ?_))))
 refine E_seqX ?_
 obtain rfl := sj h
 refine E_out ?_
 exact (E_exit k77 (ups_self ⟨rfl, trivial⟩) [0] (by decide) rfl)
 rintro (l111 | u) h
 refine J_x (fun k112 g => ?_)
 replace h := elimL h
 refine bH (eS (lS (lO ?_)))
 refine pq (qm (.one (.own k112 0 (l111).length))) ?_
 refine pq (qa (.one (.own k112 0 (l111).length))) ?_
 refine oE (eS (lR ?_))
 refine E_call (v := .one (.own k112 0 (l111).length)) (.inr rfl) (res_tmp (d := .one (.own k112 0 (l111).length)) rfl res_nil) rfl ?_
 refine pq (qa (.one (.own k112 0 (l111).length))) ?_
 refine oE (eS (lR ?_))
 obtain rfl := sj h
 exact E_endO (r := r85) 0 (.inr rfl) (res_tmp rfl res_nil) rfl (fun x h m => rfl) (fun x => rfl)
 exact u.elim

noncomputable def devec_Only_b1 (s4 : Sl (Int)) (s10 : Sl (Int)) (s11 : Sl (Int)) (n44 : Int) : Option (Int ⊕ (Unit ⊕ Empty)) :=
  (if n44 < ((s11.l.length : Nat) : Int) then ((atS 1 s11 n44).bind fun n48 => ((flags_Has s10 n44).bind fun b50 => (if b50 = true then ((flags_Has s4 n44).bind fun b52 => (if b52 = true then ((atS 1 (⟨false, 0, []⟩ : Sl (Int)) n44).bind fun n55 => none) else some (.inl (IntKind.i64.wrap (n44 + 1))))) else some (.inl (IntKind.i64.wrap (n44 + 1)))))) else some (.inr (.inl ())))
noncomputable def devec_Only_b2 (s4 : Sl (Int)) (s10 : Sl (Int)) (s11 : Sl (Int)) (n86 : Int) : Option (Int ⊕ (Unit ⊕ Empty)) :=
  (if n86 < ((s11.l.length : Nat) : Int) then ((atS 1 s11 n86).bind fun n90 => ((flags_Has s10 n86).bind fun b92 => (if b92 = true then ((flags_Has s4 n86).bind fun b94 => (if b94 = true then ((atS 1 (⟨false, 0, []⟩ : Sl (Int)) n86).bind fun n97 => none) else some (.inl (IntKind.i64.wrap (n86 + 1))))) else some (.inl (IntKind.i64.wrap (n86 + 1)))))) else some (.inr (.inl ())))
noncomputable def devec_Only_b3 (s4 : Sl (Int)) (s10 : Sl (Int)) (s11 : Sl (Int)) (a : Int × List (Int)) : Option ((Int × List (Int)) ⊕ ((List (Int)) ⊕ Empty)) :=
  match a with
  | (n150, l151) => (if n150 < ((s11.l.length : Nat) : Int) then ((atS 1 s11 n150).bind fun n156 => ((flags_Has s10 n150).bind fun b158 => (if b158 = true then ((flags_Has s4 n150).bind fun b160 => (if b160 = true then ((atL l151 n150).bind fun n163 => some (.inl ((IntKind.i64.wrap (n150 + 1)), (l151.set n150.toNat n156)))) else some (.inl ((IntKind.i64.wrap (n150 + 1)), l151)))) else some (.inl ((IntKind.i64.wrap (n150 + 1)), l151))))) else some (.inr (.inl l151)))
noncomputable def devec_Only (a0 : Int × Sl (Int) × Sl (Int)) (s4 : Sl (Int)) : Option ((Int × Sl (Int) × Sl (Int))) :=
  match a0 with
  | (n1, s2, s3) => ((devec_sure (n1, s2, s3)).bind fun (n9, s10, s11) => (if n9 < 0 then ((flags_Both s10 s4).bind fun s17 => ((loopO (devec_Only_b1 s4 s10 s11) 0).bind (Sum.elim (fun _ => some (0, (⟨true, 1, s17⟩ : Sl (Int)), (⟨false, 0, []⟩ : Sl (Int)))) (fun u => u.elim)))) else (if n9 > 4096 then ((flags_Both s10 s4).bind fun s59 => ((loopO (devec_Only_b2 s4 s10 s11) 0).bind (Sum.elim (fun _ => some (0, (⟨true, 1, s59⟩ : Sl (Int)), (⟨false, 0, []⟩ : Sl (Int)))) (fun u => u.elim)))) else ((flags_New n9).bind fun s104 => ((lenOk n9).bind fun _ => ((flags_Both s10 s4).bind fun s109 => ((loopO (devec_Only_b3 s4 s10 s11) (0, (List.replicate n9.toNat (0 : Int)))).bind (Sum.elim (fun l164 => some (n9, (⟨true, 1, s109⟩ : Sl (Int)), (⟨true, 1, l164⟩ : Sl (Int)))) (fun u => u.elim)))))))))
theorem devec_Only_r (m : Nat) {a0 : Int × Sl (Int) × Sl (Int)} {s4 : Sl (Int)} {out : (Int × Sl (Int) × Sl (Int))} (h : devec_Only a0 s4 = some out) : RunsP E1 (m + 7) 30 [.agg (r24 a0), .one (Sl.t r85 s4)] (.fresh, [.agg (r24 out)]) := by
 obtain ⟨n1, s2, s3⟩ := a0
 refine fn_F rfl (by rw [E1_fn]; exact show fiOf Tryd.prog 30 = _ by unfold fiOf; rw [Tryd.func30]; unfold Tryd.f30; rfl) rfl ?_
 dsimp only
 unfold devec_Only at h
 refine lS (lO ?_)
 refine ol_new rfl rfl rfl (q_box ty25 rfl (cs := [iI n1, sF r85 s2, sF r2 s3]) rfl rfl) (fun k5 => ?_)
 refine ol_new rfl rfl rfl (q_box ty22 rfl (cs := [sF r85 s4]) rfl rfl) (fun k6 => ?_)
 refine ol_new rfl rfl rfl (q_alloc ty25 (row := [iI 0, nC, nC]) rfl rfl) (fun k7 => ?_)
 refine oN ?_
 refine pq (ql (.agg [iI n1, sF r85 s2, sF r2 s3]) 2 sz25) ?_
 obtain ⟨⟨n9, s10, s11⟩, h8, h⟩ := bindS h
 refine ol_putX rfl rfl rfl (q_callX (v := fun fr12 => .agg [iI n9, .p fr12 (Sl.t r85 s10), .p fr12 (Sl.t r2 s11)]) (args := [.agg [iI n1, sF r85 s2, sF r2 s3]]) (devec_sure_r (m + 0) h8) rfl rfl (vw_cons (vd_agg (vc_cons vc_v (vc_cons vc_s (vc_cons vc_s vc_nil)))) vw_nil) rfl rfl (fun fr => rfl)) (fun fr12 => ?_)
 refine ow [[iI n9, .p fr12 (Sl.t r85 s10), .p fr12 (Sl.t r2 s11)]] 2 sz25 ?_
 refine oN ?_
 refine pq (q_fieldP rfl fa25_0 rfl) ?_
 refine pq (ql (iO n9) 2 sz3) ?_
 refine ol_scallN (args := [iO n9]) rfl rfl rfl ax20 (by rw [E1_fn]; exact show fiOf Tryd.prog 20 = _ by unfold fiOf; rw [Tryd.func20]; unfold Tryd.f20; rfl) rfl rfl rfl ?_
 dsimp only
 refine lS (lO ?_)
 refine ol_new rfl rfl rfl (q_alloc ty25 (row := [iI 0, nC, nC]) rfl rfl) (fun k13 => ?_)
 refine oE (eS (lS (lS (lO ?_))))
 refine pq (qm (iO n9)) ?_
 by_cases c14 : n9 < 0
 replace h := ifT c14 h
 refine pq (qb (p_lss_tZ c14)) ?_
 refine pq (qm bt) ?_
 iterate 2 refine os ?_
 refine pq (qpt bt) ?_
 refine oE (eS (cT rfl (lS (lO ?_))))
 refine pq (q_build (cs := [iI 0, nC, nC]) ty25 rfl pl25 rfl) ?_
 refine ow [[iI 0, nC, nC]] 0 sz25 ?_
 refine oE (eS (lR (eR ?_)))
 refine E_call (v := .agg [iI 0, nC, nC]) (.inr rfl) (res_cell (d := .agg [iI 0, nC, nC]) 0 rfl sz25 rfl rfl rfl rfl res_nil) rfl ?_
 refine ol_new rfl rfl rfl (q_alloc ty25 (row := [iI 0, nC, nC]) rfl rfl) (fun k15 => ?_)
 refine ow [[iI 0, nC, nC]] 0 sz25 ?_
 refine oN ?_
 refine pq (q_fieldP rfl fa25_1 rfl) ?_
 refine pq (ql (.one (.p fr12 (Sl.t r85 s10))) 4 sz22) ?_
 refine pq (ql (.one (sF r85 s4)) 3 sz22) ?_
 obtain ⟨s17, h16, h⟩ := bindS h
 refine ol_new rfl rfl rfl (q_callO (args := [.one (.p fr12 (Sl.t r85 s10)), .one (sF r85 s4)]) (flags_Both_r (m + 3) h16) rfl rfl (vw_cons (vd_one vc_s) (vw_cons (vd_one vc_s) vw_nil)) rfl) (fun k18 => ?_)
 refine pq (q_fieldP rfl fa25_1 rfl) ?_
 refine ow [[iI 0, .own k18 0 (s17).length, nC]] 1 sz22 ?_
 refine oE (eS (lS (lS (lO ?_))))
 refine pq (ql (.agg [iI n9, .p fr12 (Sl.t r85 s10), .p fr12 (Sl.t r2 s11)]) 5 sz25) ?_
 refine ol_scallN (args := [.agg [iI n9, .p fr12 (Sl.t r85 s10), .p fr12 (Sl.t r2 s11)]]) rfl rfl rfl ax50 (by rw [E1_fn]; exact show fiOf Tryd.prog 50 = _ by unfold fiOf; rw [Tryd.func50]; unfold Tryd.f50; rfl) rfl rfl rfl ?_
 dsimp only
 refine lS (lO ?_)
 refine ol_new rfl rfl rfl (q_box ty25 rfl (cs := [iI n9, .p fr12 (Sl.t r85 s10), .p fr12 (Sl.t r2 s11)]) rfl rfl) (fun k19 => ?_)
 refine pq (qa (.one (.p true (.v .nilFunc)))) ?_
 refine oN ?_
 refine pq (q_mkfun rfl rfl) ?_
 refine pq (qa (.one (.clo (.func 88) [] [.ptr k19 0 0]))) ?_
 refine oE (eS (lR ?_))
 refine E_call (v := .one (.clo (.func 88) [] [.ptr k19 0 0])) (.inr rfl) (res_tmp (d := .one (.clo (.func 88) [] [.ptr k19 0 0])) rfl res_nil) rfl ?_
 refine oE (eS (lB ?_))
 refine L_range rfl (by rw [E1_fn]; exact show fiOf Tryd.prog 88 = _ by unfold fiOf; rw [Tryd.func88]; unfold Tryd.f88; rfl) rfl rfl (fun k20 => ?_)
 dsimp only
 refine lS (lO ?_)
 refine pq (q_fieldP rfl fa25_2 rfl) ?_
 refine pq (ql (.one (.p fr12 (Sl.t r2 s11))) 1 sz23) ?_
 refine pq (q_lenS rfl ty23 rfl rfl rfl rfl) ?_
 refine pq (qm (iO 0)) ?_
 refine oE (eS (lB ?_))
 let S1 : Int → Unit → (Nat → D) → Nat → D := fun a kt g => ups g [(0, .one (.yld k20)), (1, .one (.ptr k19 0 0)), (6, .one (.p fr12 (Sl.t r2 s11))), (7, .one (iI ((s11.l.length : Nat) : Int))), (8, iO a)]
 let SL1 : Int → Unit → BL := fun a kt => ([[(k20, 0, [])], [(k19, 3, [[iI n9, .p fr12 (Sl.t r85 s10), .p fr12 (Sl.t r2 s11)]])], [(k6, 1, [[sF r85 s4]])], [(k7, 3, [[iI 0, nC, nC]])], [(k15, 3, [[iI 0, .own k18 0 (s17).length, nC]])], [(k18, 1, (s17).map (rowC r85))]] : BL)
 let G1 : Empty → Ex → St → Prop := fun u => u.elim
 let Sx1 : Unit → Unit → (Nat → D) → Nat → D := fun a kt g => ups g []
 let SLx1 : Unit → Unit → BL := fun a kt => ([[(k6, 1, [[sF r85 s4]])], [(k7, 3, [[iI 0, nC, nC]])], [(k15, 3, [[iI 0, .own k18 0 (s17).length, nC]])], [(k20, 0, [])], [(k18, 1, (s17).map (rowC r85))]] : BL)
 let J1 : (Unit ⊕ Empty) → Ex → St → Prop := JX 25 0 Sx1 SLx1 G1
 refine L_loopS (devec_Only_b1 s4 s10 s11) S1 SL1 J1 JX_n 0 h () (ups_self ⟨rfl, rfl, rfl, rfl, rfl, trivial⟩) [0, 1, 6, 5, 3, 2] (by decide) rfl ?_ ?_
 rintro n44 _ g out h
 change devec_Only_b1 s4 s10 s11 n44 = some out at h
 unfold devec_Only_b1 at h
 refine lS (lO ?_)
 by_cases c45 : n44 < ((s11.l.length : Nat) : Int)
 replace h := ifT c45 h
 refine pq (qb (p_lss_tZ c45)) ?_
 refine oE (eS (lS (cT rfl (lK (eS (lS (lB (lS (lO ?_)))))))))
 refine pq (qm (iO n44)) ?_
 obtain ⟨n48, h47, h⟩ := bindS h
 obtain ⟨h47a, h47b, h47⟩ := atS_some h47
 refine pq (q_ixS rfl rfl h47a h47 (el23.trans (congrArg some h47b.symm))) ?_
 refine pq (q_loadI (v := iO n48) rfl sz2 (map_get h47) rfl rfl) ?_
 refine pq (qa (iO n44)) ?_
 refine pq (qa (iO n48)) ?_
 refine oN ?_
 refine pq (q_fieldP rfl fa25_1 rfl) ?_
 refine pq (ql (.one (.p fr12 (Sl.t r85 s10))) 1 sz22) ?_
 refine pq (qm (iO n44)) ?_
 obtain ⟨b50, h49, h⟩ := bindS h
 refine pq (qc (bO b50) [.one (.p fr12 (Sl.t r85 s10)), iO n44] (flags_Has_r (m + 3) h49) (vw_cons (vd_one vc_s) (vw_cons (vd_one vc_v) vw_nil))) ?_
 refine pq (qm (bO b50)) ?_
 rcases b50 with _ | _
 replace h := wF h
 iterate 5 refine os ?_
 refine pq (qpf bf) ?_
 refine oE (eS (cF rfl (lK (bN (eS (lO ?_))))))
 refine pq (qb p_addY) ?_
 refine pq (qm (iO (IntKind.i64.wrap (n44 + 1)))) ?_
 refine oE ?_
 obtain rfl := sj h
 exact E_next () (ups_self ⟨rfl, rfl, rfl, rfl, rfl, trivial⟩) [0, 1, 2, 3, 4, 5] (by decide) rfl
 replace h := wT h
 refine pq (qm (.one (.yld k20))) ?_
 refine pq (qm (iO n44)) ?_
 refine pq (qm (iO n48)) ?_
 refine ol_yield (args := [iO n44, iO n48]) (p := 0) rfl rfl rfl rfl rfl rfl rfl rfl rfl ?_
 refine lS (lO ?_)
 refine pq (qa (iO n44)) ?_
 refine oR ?_
 refine pq (qa (iO n48)) ?_
 refine oE ?_
 refine E_asg ?_
 refine lB (lS (lO ?_))
 refine pq (ql (.one (sF r85 s4)) 2 sz22) ?_
 refine pq (qm (iO n44)) ?_
 obtain ⟨b52, h51, h⟩ := bindS h
 refine pq (qc (bO b52) [.one (sF r85 s4), iO n44] (flags_Has_r (m + 4) h51) (vw_cons (vd_one vc_s) (vw_cons (vd_one vc_v) vw_nil))) ?_
 refine oE (eS ?_)
 rcases b52 with _ | _
 replace h := wF h
 refine cF rfl (lK (bN ?_))
 refine E_roundN (p := 0) rfl ?_
 refine pq (q_not rfl) ?_
 refine pq (qpt bf) ?_
 refine oE (eS (cF rfl (lK (bN (eS (lO ?_))))))
 refine pq (qb p_addY) ?_
 refine pq (qm (iO (IntKind.i64.wrap (n44 + 1)))) ?_
 refine oE ?_
 obtain rfl := sj h
 exact E_next () (ups_self ⟨rfl, rfl, rfl, rfl, rfl, trivial⟩) [0, 1, 2, 3, 4, 5] (by decide) rfl
 replace h := wT h
 refine cT rfl (lO ?_)
 refine pq (q_fieldP rfl fa25_2 rfl) ?_
 refine pq (ql (.one nC) 4 sz23) ?_
 refine pq (qm (iO n44)) ?_
 refine pq (qm (iO n48)) ?_
 obtain ⟨n55, h54, h⟩ := bindS h
 exact (atS_nil h54).elim
 replace h := ifF c45 h
 refine pq (qb (p_lss_fZ c45)) ?_
 refine oE (eS (lS (cF rfl (L_exit ?_))))
 refine E_seqX ?_
 obtain rfl := sj h
 refine E_out ?_
 exact (E_exit () (ups_self trivial) [2, 3, 4, 0, 5] (by decide) rfl)
 rintro (_ | u) h
 refine J_x (fun kt g => ?_)
 replace h := elimL h
 refine bH ?_
 refine E_range (p := 3) (.inl rfl) rfl ?_
 refine bN (eS (lS (lO ?_)))
 refine pq (ql (.agg [iI 0, .own k18 0 (s17).length, nC]) 2 sz25) ?_
 refine ow [[iI 0, .own k18 0 (s17).length, nC]] 1 sz25 ?_
 refine oE (eS (lR ?_))
 obtain rfl := sj h
 exact E_endF (.inr rfl) (res_cell (d := .agg [iI 0, .own k18 0 (s17).length, nC]) 1 rfl sz25 rfl rfl rfl rfl res_nil) (vw_cons (vd_agg (vc_cons vc_v (vc_cons (vc_own (r := r85) 4 rfl (fun x h m => rfl)) (vc_cons vc_s vc_nil)))) vw_nil) oG rfl rfl
 exact u.elim
 replace h := ifF c14 h
 refine pq (qb (p_lss_fZ c14)) ?_
 refine pq (qm bf) ?_
 refine pq (qm (iO n9)) ?_
 by_cases c56 : n9 > 4096
 replace h := ifT c56 h
 refine pq (qb (p_gtr_tZ c56)) ?_
 refine pq (qpf bt) ?_
 refine oE (eS (cT rfl (lS (lO ?_))))
 refine pq (q_build (cs := [iI 0, nC, nC]) ty25 rfl pl25 rfl) ?_
 refine ow [[iI 0, nC, nC]] 0 sz25 ?_
 refine oE (eS (lR (eR ?_)))
 refine E_call (v := .agg [iI 0, nC, nC]) (.inr rfl) (res_cell (d := .agg [iI 0, nC, nC]) 0 rfl sz25 rfl rfl rfl rfl res_nil) rfl ?_
 refine ol_new rfl rfl rfl (q_alloc ty25 (row := [iI 0, nC, nC]) rfl rfl) (fun k57 => ?_)
 refine ow [[iI 0, nC, nC]] 0 sz25 ?_
 refine oN ?_
 refine pq (q_fieldP rfl fa25_1 rfl) ?_
 refine pq (ql (.one (.p fr12 (Sl.t r85 s10))) 4 sz22) ?_
 refine pq (ql (.one (sF r85 s4)) 3 sz22) ?_
 obtain ⟨s59, h58, h⟩ := bindS h
 refine ol_new rfl rfl rfl (q_callO (args := [.one (.p fr12 (Sl.t r85 s10)), .one (sF r85 s4)]) (flags_Both_r (m + 3) h58) rfl rfl (vw_cons (vd_one vc_s) (vw_cons (vd_one vc_s) vw_nil)) rfl) (fun k60 => ?_)
 refine pq (q_fieldP rfl fa25_1 rfl) ?_
 refine ow [[iI 0, .own k60 0 (s59).length, nC]] 1 sz22 ?_
 refine oE (eS (lS (lS (lO ?_))))
 refine pq (ql (.agg [iI n9, .p fr12 (Sl.t r85 s10), .p fr12 (Sl.t r2 s11)]) 5 sz25) ?_
 refine ol_scallN (args := [.agg [iI n9, .p fr12 (Sl.t r85 s10), .p fr12 (Sl.t r2 s11)]]) rfl rfl rfl ax50 (by rw [E1_fn]; exact show fiOf Tryd.prog 50 = _ by unfold fiOf; rw [Tryd.func50]; unfold Tryd.f50; rfl) rfl rfl rfl ?_
 dsimp only
 refine lS (lO ?_)
 refine ol_new rfl rfl rfl (q_box ty25 rfl (cs := [iI n9, .p fr12 (Sl.t r85 s10), .p fr12 (Sl.t r2 s11)]) rfl rfl) (fun k61 => ?_)
 refine pq (qa (.one (.p true (.v .nilFunc)))) ?_
 refine oN ?_
 refine pq (q_mkfun rfl rfl) ?_
 refine pq (qa (.one (.clo (.func 88) [] [.ptr k61 0 0]))) ?_
 refine oE (eS (lR ?_))
 refine E_call (v := .one (.clo (.func 88) [] [.ptr k61 0 0])) (.inr rfl) (res_tmp (d := .one (.clo (.func 88) [] [.ptr k61 0 0])) rfl res_nil) rfl ?_
 refine oE (eS (lB ?_))
 refine L_range rfl (by rw [E1_fn]; exact show fiOf Tryd.prog 88 = _ by unfold fiOf; rw [Tryd.func88]; unfold Tryd.f88; rfl) rfl rfl (fun k62 => ?_)
 dsimp only
 refine lS (lO ?_)
 refine pq (q_fieldP rfl fa25_2 rfl) ?_
 refine pq (ql (.one (.p fr12 (Sl.t r2 s11))) 1 sz23) ?_
 refine pq (q_lenS rfl ty23 rfl rfl rfl rfl) ?_
 refine pq (qm (iO 0)) ?_
 refine oE (eS (lB ?_))
 let S2 : Int → Unit → (Nat → D) → Nat → D := fun a kt g => ups g [(0, .one (.yld k62)), (1, .one (.ptr k61 0 0)), (6, .one (.p fr12 (Sl.t r2 s11))), (7, .one (iI ((s11.l.length : Nat) : Int))), (8, iO a)]
 let SL2 : Int → Unit → BL := fun a kt => ([[(k62, 0, [])], [(k61, 3, [[iI n9, .p fr12 (Sl.t r85 s10), .p fr12 (Sl.t r2 s11)]])], [(k6, 1, [[sF r85 s4]])], [(k7, 3, [[iI 0, nC, nC]])], [(k57, 3, [[iI 0, .own k60 0 (s59).length, nC]])], [(k60, 1, (s59).map (rowC r85))]] : BL)
 let G2 : Empty → Ex → St → Prop := fun u => u.elim
 let Sx2 : Unit → Unit → (Nat → D) → Nat → D := fun a kt g => ups g []
 let SLx2 : Unit → Unit → BL := fun a kt => ([[(k6, 1, [[sF r85 s4]])], [(k7, 3, [[iI 0, nC, nC]])], [(k57, 3, [[iI 0, .own k60 0 (s59).length, nC]])], [(k62, 0, [])], [(k60, 1, (s59).map (rowC r85))]] : BL)
 let J2 : (Unit ⊕ Empty) → Ex → St → Prop := JX 25 0 Sx2 SLx2 G2
 refine L_loopS (devec_Only_b2 s4 s10 s11) S2 SL2 J2 JX_n 0 h () (ups_self ⟨rfl, rfl, rfl, rfl, rfl, trivial⟩) [0, 1, 6, 5, 3, 2] (by decide) rfl ?_ ?_
 rintro n86 _ g out h
 change devec_Only_b2 s4 s10 s11 n86 = some out at h
 unfold devec_Only_b2 at h
 refine lS (lO ?_)
 by_cases c87 : n86 < ((s11.l.length : Nat) : Int)
 replace h := ifT c87 h
 refine pq (qb (p_lss_tZ c87)) ?_
 refine oE (eS (lS (cT rfl (lK (eS (lS (lB (lS (lO ?_)))))))))
 refine pq (qm (iO n86)) ?_
 obtain ⟨n90, h89, h⟩ := bindS h
 obtain ⟨h89a, h89b, h89⟩ := atS_some h89
 refine pq (q_ixS rfl rfl h89a h89 (el23.trans (congrArg some h89b.symm))) ?_
 refine pq (q_loadI (v := iO n90) rfl sz2 (map_get h89) rfl rfl) ?_
 refine pq (qa (iO n86)) ?_
 refine pq (qa (iO n90)) ?_
 refine oN ?_
 refine pq (q_fieldP rfl fa25_1 rfl) ?_
 refine pq (ql (.one (.p fr12 (Sl.t r85 s10))) 1 sz22) ?_
 refine pq (qm (iO n86)) ?_
 obtain ⟨b92, h91, h⟩ := bindS h
 refine pq (qc (bO b92) [.one (.p fr12 (Sl.t r85 s10)), iO n86] (flags_Has_r (m + 3) h91) (vw_cons (vd_one vc_s) (vw_cons (vd_one vc_v) vw_nil))) ?_
 refine pq (qm (bO b92)) ?_
 rcases b92 with _ | _
 replace h := wF h
 iterate 5 refine os ?_
 refine pq (qpf bf) ?_
 refine oE (eS (cF rfl (lK (bN (eS (lO ?_))))))
 refine pq (qb p_addY) ?_
 refine pq (qm (iO (IntKind.i64.wrap (n86 + 1)))) ?_
 refine oE ?_
 obtain rfl := sj h
 exact E_next () (ups_self ⟨rfl, rfl, rfl, rfl, rfl, trivial⟩) [0, 1, 2, 3, 4, 5] (by decide) rfl
 replace h := wT h
 refine pq (qm (.one (.yld k62))) ?_
 refine pq (qm (iO n86)) ?_
 refine pq (qm (iO n90)) ?_
 refine ol_yield (args := [iO n86, iO n90]) (p := 0) rfl rfl rfl rfl rfl rfl rfl rfl rfl ?_
 refine lS (lO ?_)
 refine pq (qa (iO n86)) ?_
 refine oR ?_
 refine pq (qa (iO n90)) ?_
 refine oE ?_
 refine E_asg ?_
 refine lB (lS (lO ?_))
 refine pq (ql (.one (sF r85 s4)) 2 sz22) ?_
 refine pq (qm (iO n86)) ?_
 obtain ⟨b94, h93, h⟩ := bindS h
 refine pq (qc (bO b94) [.one (sF r85 s4), iO n86] (flags_Has_r (m + 4) h93) (vw_cons (vd_one vc_s) (vw_cons (vd_one vc_v) vw_nil))) ?_
 refine oE (eS ?_)
 rcases b94 with _ | _
 replace h := wF h
 refine cF rfl (lK (bN ?_))
 refine E_roundN (p := 0) rfl ?_
 refine pq (q_not rfl) ?_
 refine pq (qpt bf) ?_
 refine oE (eS (cF rfl (lK (bN (eS (lO ?_))))))
 refine pq (qb p_addY) ?_
 refine pq (qm (iO (IntKind.i64.wrap (n86 + 1)))) ?_
 refine oE ?_
 obtain rfl := sj h
 exact E_next () (ups_self ⟨rfl, rfl, rfl, rfl, rfl, trivial⟩) [0, 1, 2, 3, 4, 5] (by decide) rfl
 replace h := wT h
 refine cT rfl (lO ?_)
 refine pq (q_fieldP rfl fa25_2 rfl) ?_
 refine pq (ql (.one nC) 4 sz23) ?_
 refine pq (qm (iO n86)) ?_
 refine pq (qm (iO n90)) ?_
 obtain ⟨n97, h96, h⟩ := bindS h
 exact (atS_nil h96).elim
 replace h := ifF c87 h
 refine pq (qb (p_lss_fZ c87)) ?_
 refine oE (eS (lS (cF rfl (L_exit ?_))))
 refine E_seqX ?_
 obtain rfl := sj h
 refine E_out ?_
 exact (E_exit () (ups_self trivial) [2, 3, 4, 0, 5] (by decide) rfl)
 rintro (_ | u) h
 refine J_x (fun kt g => ?_)
 replace h := elimL h
 refine bH ?_
 refine E_range (p := 3) (.inl rfl) rfl ?_
 refine bN (eS (lS (lO ?_)))
 refine pq (ql (.agg [iI 0, .own k60 0 (s59).length, nC]) 2 sz25) ?_
 refine ow [[iI 0, .own k60 0 (s59).length, nC]] 1 sz25 ?_
 refine oE (eS (lR ?_))
 obtain rfl := sj h
 exact E_endF (.inr rfl) (res_cell (d := .agg [iI 0, .own k60 0 (s59).length, nC]) 1 rfl sz25 rfl rfl rfl rfl res_nil) (vw_cons (vd_agg (vc_cons vc_v (vc_cons (vc_own (r := r85) 4 rfl (fun x h m => rfl)) (vc_cons vc_s vc_nil)))) vw_nil) oG rfl rfl
 exact u.elim
 replace h := ifF c56 h
 refine pq (qb (p_gtr_fZ c56)) ?_
 refine pq (qpf bf) ?_
 refine oE (eS (cF rfl (lK (eS (lS ?_)))))
 refine L_norm (L2 := ([[(k13, 3, [[iI 0, nC, nC]])], [(k7, 3, [[iI 0, nC, nC]])], [(k6, 1, [[sF r85 s4]])], [(k5, 3, [[iI n9, .p fr12 (Sl.t r85 s10), .p fr12 (Sl.t r2 s11)]])]] : BL)) [0, 1, 2, 3] (by decide) rfl ?_
 refine L_turn 7 rfl [[], [], [], [], [], [], [k13]] [(false, []), (false, []), (true, []), (false, []), (true, []), (false, []), (false, [])] [[1, 2, 3, 4], [0, 3, 4], [0, 3, 4], [0, 1, 2], [0, 1, 2], [], []] (by kernel_rfl) (by kernel_rfl) (by kernel_rfl) ?_ (fun bb98 hlt hnd => ?_)
 intro bb98 hlt hnd
 exact ⟨⟨djE, ⟨djE, ⟨djE, ⟨djE, ⟨djE, ⟨djE, ⟨djN, trivial⟩⟩⟩⟩⟩⟩⟩, (ltO_cons ltK_nil (ltO_cons ltK_nil (ltO_cons ltK_nil (ltO_cons ltK_nil (ltO_cons ltK_nil (ltO_cons ltK_nil (ltO_cons (ltK_cons (key_lt hlt 0 rfl) ltK_nil) ltO_nil)))))))⟩
 refine tq [] rfl hmn (qm (iO n9)) ?_
 refine tq [] rfl hmn (qm (iO n9)) ?_
 obtain ⟨s104, h103, h⟩ := bindS h
 refine tn_new rfl rfl rfl [] (by decide) rfl hmn rfl rfl (hkc (ne_new (key_lt hlt 0 rfl)) (hkc (ne_new (key_lt hlt 1 rfl)) (hkc (ne_new (key_lt hlt 2 rfl)) (hkc (ne_new (key_lt hlt 3 rfl)) hkn)))) (q_callO (args := [iO n9]) (flags_New_r (m + 3) h103) rfl rfl (vw_cons (vd_one vc_v) vw_nil) rfl) ?_
 refine tq [] rfl hmn (qm (iO n9)) ?_
 obtain ⟨u105, h106, h⟩ := bindS h
 refine tn_new rfl rfl rfl [] (by decide) rfl hmn rfl rfl (hkc (ne_add rfl) (hkc (ne_new (key_lt hlt 0 rfl)) (hkc (ne_new (key_lt hlt 1 rfl)) (hkc (ne_new (key_lt hlt 2 rfl)) (hkc (ne_new (key_lt hlt 3 rfl)) hkn))))) (q_mkslice (r := rowC r2) (a := (0 : Int)) ty23 rfl ty2 rfl rfl (lenOk_some h106).1 (lenOk_some h106).2 rfl rfl) ?_
 refine tq [] rfl (hm0 rfl) (q_build (cs := [iI n9, .own (bb98 + 2) 0 (s104).length, .own (bb98 + 4) 0 ((List.replicate n9.toNat (0 : Int))).length]) ty25 rfl pl25 rfl) ?_
 refine tn_wr rfl rfl [2] (by decide) rfl (hm0 rfl) rfl (q_store (es' := [[iI n9, .own (bb98 + 2) 0 (s104).length, .own (bb98 + 4) 0 ((List.replicate n9.toNat (0 : Int))).length]]) 0 rfl rfl rfl sz25 rfl rfl rfl rfl rfl) (q := 2) rfl rfl ?_
 refine tn_end (eS (lR ?_))
 refine E_call (v := .agg [iI n9, .own (bb98 + 2) 0 (s104).length, .own (bb98 + 4) 0 ((List.replicate n9.toNat (0 : Int))).length]) (.inr rfl) (res_cell (d := .agg [iI n9, .own (bb98 + 2) 0 (s104).length, .own (bb98 + 4) 0 ((List.replicate n9.toNat (0 : Int))).length]) 2 rfl sz25 rfl rfl rfl rfl res_nil) rfl ?_
 refine ol_new rfl rfl rfl (q_alloc ty25 (row := [iI 0, nC, nC]) rfl rfl) (fun k107 => ?_)
 refine ow [[iI n9, .own (bb98 + 2) 0 (s104).length, .own (bb98 + 4) 0 ((List.replicate n9.toNat (0 : Int))).length]] 0 sz25 ?_
 refine oN ?_
 refine pq (q_fieldP rfl fa25_1 rfl) ?_
 refine pq (ql (.one (.p fr12 (Sl.t r85 s10))) 6 sz22) ?_
 refine pq (ql (.one (sF r85 s4)) 5 sz22) ?_
 obtain ⟨s109, h108, h⟩ := bindS h
 refine ol_new rfl rfl rfl (q_callO (args := [.one (.p fr12 (Sl.t r85 s10)), .one (sF r85 s4)]) (flags_Both_r (m + 3) h108) rfl rfl (vw_cons (vd_one vc_s) (vw_cons (vd_one vc_s) vw_nil)) rfl) (fun k110 => ?_)
 refine pq (q_fieldP rfl fa25_1 rfl) ?_
 refine ow [[iI n9, .own k110 0 (s109).length, .own (bb98 + 4) 0 ((List.replicate n9.toNat (0 : Int))).length]] 1 sz22 ?_
 refine oE (eS (lS (lS (lO ?_))))
 refine pq (ql (.agg [iI n9, .p fr12 (Sl.t r85 s10), .p fr12 (Sl.t r2 s11)]) 7 sz25) ?_
 refine ol_scallN (args := [.agg [iI n9, .p fr12 (Sl.t r85 s10), .p fr12 (Sl.t r2 s11)]]) rfl rfl rfl ax50 (by rw [E1_fn]; exact show fiOf Tryd.prog 50 = _ by unfold fiOf; rw [Tryd.func50]; unfold Tryd.f50; rfl) rfl rfl rfl ?_
 dsimp only
 refine lS (lO ?_)
 refine ol_new rfl rfl rfl (q_box ty25 rfl (cs := [iI n9, .p fr12 (Sl.t r85 s10), .p fr12 (Sl.t r2 s11)]) rfl rfl) (fun k111 => ?_)
 refine pq (qa (.one (.p true (.v .nilFunc)))) ?_
 refine oN ?_
 refine pq (q_mkfun rfl rfl) ?_
 refine pq (qa (.one (.clo (.func 88) [] [.ptr k111 0 0]))) ?_
 refine oE (eS (lR ?_))
 refine E_call (v := .one (.clo (.func 88) [] [.ptr k111 0 0])) (.inr rfl) (res_tmp (d := .one (.clo (.func 88) [] [.ptr k111 0 0])) rfl res_nil) rfl ?_
 refine oE (eS (lB ?_))
 refine L_range rfl (by rw [E1_fn]; exact show fiOf Tryd.prog 88 = _ by unfold fiOf; rw [Tryd.func88]; unfold Tryd.f88; rfl) rfl rfl (fun k112 => ?_)
 dsimp only
 refine lS (lO ?_)
 refine pq (q_fieldP rfl fa25_2 rfl) ?_
 refine pq (ql (.one (.p fr12 (Sl.t r2 s11))) 1 sz23) ?_
 refine pq (q_lenS rfl ty23 rfl rfl rfl rfl) ?_
 refine pq (qm (iO 0)) ?_
 refine oE (eS (lB ?_))
 let S3 : (Int × List (Int)) → Nat → (Nat → D) → Nat → D := fun a kt g => ups g [(0, .one (.yld k112)), (1, .one (.ptr k111 0 0)), (6, .one (.p fr12 (Sl.t r2 s11))), (7, .one (iI ((s11.l.length : Nat) : Int))), (8, .one (iI a.1))]
 let SL3 : (Int × List (Int)) → Nat → BL := fun a kt => ([[(k112, 0, [])], [(k111, 3, [[iI n9, .p fr12 (Sl.t r85 s10), .p fr12 (Sl.t r2 s11)]])], [(k6, 1, [[sF r85 s4]])], [(k7, 3, [[iI 0, nC, nC]])], [(k107, 3, [[iI n9, .own k110 0 (s109).length, .own kt 0 (a.2).length]])], [(k110, 1, (s109).map (rowC r85))], [(kt, 1, (a.2).map (rowC r2))]] : BL)
 let G3 : Empty → Ex → St → Prop := fun u => u.elim
 let Sx3 : (List (Int)) → Nat → (Nat → D) → Nat → D := fun a kt g => ups g []
 let SLx3 : (List (Int)) → Nat → BL := fun a kt => ([[(k6, 1, [[sF r85 s4]])], [(k7, 3, [[iI 0, nC, nC]])], [(k107, 3, [[iI n9, .own k110 0 (s109).length, .own kt 0 (a).length]])], [(k112, 0, [])], [(k110, 1, (s109).map (rowC r85))], [(kt, 1, (a).map (rowC r2))]] : BL)
 let J3 : ((List (Int)) ⊕ Empty) → Ex → St → Prop := JX 25 0 Sx3 SLx3 G3
 refine L_loopS (devec_Only_b3 s4 s10 s11) S3 SL3 J3 JX_n (0, (List.replicate n9.toNat (0 : Int))) h (bb98 + 4) (ups_self ⟨rfl, rfl, rfl, rfl, rfl, trivial⟩) [0, 1, 8, 7, 3, 2, 4] (by decide) rfl ?_ ?_
 rintro ⟨n150, l151⟩ k152 g out h
 change devec_Only_b3 s4 s10 s11 (n150, l151) = some out at h
 unfold devec_Only_b3 at h
 refine lS (lO ?_)
 by_cases c153 : n150 < ((s11.l.length : Nat) : Int)
 replace h := ifT c153 h
 refine pq (qb (p_lss_tZ c153)) ?_
 refine oE (eS (lS (cT rfl (lK (eS (lS (lB (lS (lO ?_)))))))))
 refine pq (qm (iO n150)) ?_
 obtain ⟨n156, h155, h⟩ := bindS h
 obtain ⟨h155a, h155b, h155⟩ := atS_some h155
 refine pq (q_ixS rfl rfl h155a h155 (el23.trans (congrArg some h155b.symm))) ?_
 refine pq (q_loadI (v := iO n156) rfl sz2 (map_get h155) rfl rfl) ?_
 refine pq (qa (iO n150)) ?_
 refine pq (qa (iO n156)) ?_
 refine oN ?_
 refine pq (q_fieldP rfl fa25_1 rfl) ?_
 refine pq (ql (.one (.p fr12 (Sl.t r85 s10))) 1 sz22) ?_
 refine pq (qm (iO n150)) ?_
 obtain ⟨b158, h157, h⟩ := bindS h
 refine pq (qc (bO b158) [.one (.p fr12 (Sl.t r85 s10)), iO n150] (flags_Has_r (m + 3) h157) (vw_cons (vd_one vc_s) (vw_cons (vd_one vc_v) vw_nil))) ?_
 refine pq (qm (bO b158)) ?_
 rcases b158 with _ | _
 replace h := wF h
 iterate 5 refine os ?_
 refine pq (qpf bf) ?_
 refine oE (eS (cF rfl (lK (bN (eS (lO ?_))))))
 refine pq (qb p_addY) ?_
 refine pq (qm (iO (IntKind.i64.wrap (n150 + 1)))) ?_
 refine oE ?_
 obtain rfl := sj h
 exact E_next k152 (ups_self ⟨rfl, rfl, rfl, rfl, rfl, trivial⟩) [0, 1, 2, 3, 4, 5, 6] (by decide) rfl
 replace h := wT h
 refine pq (qm (.one (.yld k112))) ?_
 refine pq (qm (iO n150)) ?_
 refine pq (qm (iO n156)) ?_
 refine ol_yield (args := [iO n150, iO n156]) (p := 0) rfl rfl rfl rfl rfl rfl rfl rfl rfl ?_
 refine lS (lO ?_)
 refine pq (qa (iO n150)) ?_
 refine oR ?_
 refine pq (qa (iO n156)) ?_
 refine oE ?_
 refine E_asg ?_
 refine lB (lS (lO ?_))
 refine pq (ql (.one (sF r85 s4)) 2 sz22) ?_
 refine pq (qm (iO n150)) ?_
 obtain ⟨b160, h159, h⟩ := bindS h
 refine pq (qc (bO b160) [.one (sF r85 s4), iO n150] (flags_Has_r (m + 4) h159) (vw_cons (vd_one vc_s) (vw_cons (vd_one vc_v) vw_nil))) ?_
 refine oE (eS ?_)
 rcases b160 with _ | _
 replace h := wF h
 refine cF rfl (lK (bN ?_))
 refine E_roundN (p := 0) rfl ?_
 refine pq (q_not rfl) ?_
 refine pq (qpt bf) ?_
 refine oE (eS (cF rfl (lK (bN (eS (lO ?_))))))
 refine pq (qb p_addY) ?_
 refine pq (qm (iO (IntKind.i64.wrap (n150 + 1)))) ?_
 refine oE ?_
 obtain rfl := sj h
 exact E_next k152 (ups_self ⟨rfl, rfl, rfl, rfl, rfl, trivial⟩) [0, 1, 2, 3, 4, 5, 6] (by decide) rfl
 replace h := wT h
 refine cT rfl (lO ?_)
 refine pq (q_fieldP rfl fa25_2 rfl) ?_
 refine pq (ql (.one (.own k152 0 (l151).length)) 4 sz23) ?_
 refine pq (qm (iO n150)) ?_
 refine pq (qm (iO n156)) ?_
 obtain ⟨n163, h162, h⟩ := bindS h
 obtain ⟨h162a, h162⟩ := atL_some h162
 refine pq (q_ixO 6 rfl rfl h162a h162 rfl el23) ?_
 refine ol_wr rfl rfl (q_store (e' := rowC r2 n156) (es' := ((l151.set n150.toNat n156)).map (rowC r2)) 6 rfl rfl rfl sz2 rfl rfl (map_get h162) rfl map_set) rfl ?_
 refine ol_re 26 (v := .one (.own k152 0 ((l151.set n150.toNat n156)).length)) (Eq.trans (b := .one (.own k152 0 (l151).length)) rfl (congrArg D.one own_setC)) ?_
 refine ol_reS 4 (s' := [(k107, 3, [[iI n9, .own k110 0 (s109).length, .own k152 0 ((l151.set n150.toNat n156)).length]])]) rfl (congrArg (fun z => ([(k107, 3, [[iI n9, .own k110 0 (s109).length, z]])] : List B1)) own_setC) ?_
 refine oE (bN ?_)
 refine E_roundN (p := 0) rfl ?_
 refine pq (q_not rfl) ?_
 refine pq (qpt bf) ?_
 refine oE (eS (cF rfl (lK (bN (eS (lO ?_))))))
 refine pq (qb p_addY) ?_
 refine pq (qm (iO (IntKind.i64.wrap (n150 + 1)))) ?_
 refine oE ?_
 obtain rfl := sj h
 exact E_next k152 (ups_self ⟨rfl, rfl, rfl, rfl, rfl, trivial⟩) [0, 1, 2, 3, 4, 5, 6] (by decide) rfl
 replace h := ifF c153 h
 refine pq (qb (p_lss_fZ c153)) ?_
 refine oE (eS (lS (cF rfl (L_exit ?_))))
 refine E_seqX ?_
 obtain rfl := sj h
 refine E_out ?_
 exact (E_exit k152 (ups_self trivial) [2, 3, 4, 0, 5, 6] (by decide) rfl)
 rintro (l164 | u) h
 refine J_x (fun k165 g => ?_)
 replace h := elimL h
 refine bH ?_
 refine E_range (p := 3) (.inl rfl) rfl ?_
 refine bN (eS (lS (lO ?_)))
 refine pq (ql (.agg [iI n9, .own k110 0 (s109).length, .own k165 0 (l164).length]) 2 sz25) ?_
 refine ow [[iI n9, .own k110 0 (s109).length, .own k165 0 (l164).length]] 1 sz25 ?_
 refine oE (eS (lR ?_))
 obtain rfl := sj h
 exact E_endF (.inr rfl) (res_cell (d := .agg [iI n9, .own k110 0 (s109).length, .own k165 0 (l164).length]) 1 rfl sz25 rfl rfl rfl rfl res_nil) (vw_cons (vd_agg (vc_cons vc_v (vc_cons (vc_own (r := r85) 4 rfl (fun x h m => rfl)) (vc_cons (vc_own (r := r2) 5 rfl (fun x h m => rfl)) vc_nil)))) vw_nil) oG rfl rfl
 exact u.elim
end Ev
end Go.Proofs.YtjomjfjbpcafhaaDoor
