/- Functions of the program as functions on data, and that they are. -/
import Derived.Test.YtlcfdmjkbaegpaaEvZ
import Derived.Test.YtlcfdmjkbaegpaaLf1
import Derived.Test.YtlcfdmjkbaegpaaLy1
import Derived.Test.YtlcfdmjkbaegpaaLy2
namespace Go.Proofs.Ytlcfdmjkbaegpaa
namespace Ev
open Go
set_option linter.unusedVariables false
set_option linter.unusedSimpArgs false
set_option maxRecDepth 100000
set_option maxHeartbeats 1000000
attribute [local irreducible] OpsL StL TnL WpL EndL
noncomputable def flags_within (s1 : Sl (Int)) (n2 : Int) : Option (Bool) :=
  (if n2 ≥ 0 then ((divO .i64 n2 64).bind fun n4 => (if n4 < ((s1.l.length : Nat) : Int) then some true else some false)) else some false)
theorem flags_within_r (m : Nat) {s1 : Sl (Int)} {n2 : Int} {out : Bool} (h : flags_within s1 n2 = some out) : RunsP E1 (m + 1) 72 [.one (Sl.t r61 s1), .one (iT .i64 n2)] (.fresh, [.one (bT out)]) := by
 refine fn_F rfl (by rw [E1_fn]; exact show fiOf Try.prog 72 = _ by unfold fiOf; rw [Try.func72]; unfold Try.f72; rfl) rfl ?_
 dsimp only
 unfold flags_within at h
 refine lS (lO ?_)
 refine pq (qa bf) ?_
 refine oN ?_
 refine pq (qm (iO n2)) ?_
 by_cases c3 : n2 ≥ 0
 replace h := ifT c3 h
 refine pq (qb (p_geq_tZ c3)) ?_
 refine pq (qm bt) ?_
 refine pq (qm (iO n2)) ?_
 obtain ⟨n4, h5, h⟩ := bindS h
 refine pq (q_bin rfl rfl (divO_p h5) rfl) ?_
 refine pq (qm (.one (sF r61 s1))) ?_
 refine pq (q_lenS rfl ty33 rfl rfl rfl rfl) ?_
 by_cases c6 : n4 < ((s1.l.length : Nat) : Int)
 replace h := ifT c6 h
 refine pq (qb (p_lss_tZ c6)) ?_
 refine pq (qpt bt) ?_
 refine pq (qa bt) ?_
 refine oE (eS (lR ?_))
 obtain rfl := sj h
 exact eF1
 replace h := ifF c6 h
 refine pq (qb (p_lss_fZ c6)) ?_
 refine pq (qpt bf) ?_
 refine pq (qa bf) ?_
 refine oE (eS (lR ?_))
 obtain rfl := sj h
 exact eF1
 replace h := ifF c3 h
 refine pq (qb (p_geq_fZ c3)) ?_
 refine pq (qm bf) ?_
 iterate 5 refine os ?_
 refine pq (qpf bf) ?_
 refine pq (qa bf) ?_
 refine oE (eS (lR ?_))
 obtain rfl := sj h
 exact eF1

noncomputable def flags_bit (n1 : Int) : Option (Int) :=
  ((modO n1 64).bind fun n2 => ((shl1 .u64 1 (IntKind.u64.wrap n2)).bind fun n4 => some n4))
theorem flags_bit_r (m : Nat) {n1 : Int} {out : Int} (h : flags_bit n1 = some out) : RunsP E1 (m + 1) 73 [.one (iT .i64 n1)] (.fresh, [.one (iT .u64 out)]) := by
 refine fn_F rfl (by rw [E1_fn]; exact show fiOf Try.prog 73 = _ by unfold fiOf; rw [Try.func73]; unfold Try.f73; rfl) rfl ?_
 dsimp only
 unfold flags_bit at h
 refine lS (lO ?_)
 refine pq (qa (.one (uI 0))) ?_
 refine oN ?_
 refine pq (qm (iO n1)) ?_
 obtain ⟨n2, h3, h⟩ := bindS h
 refine pq (q_bin rfl rfl (modO_p h3) rfl) ?_
 refine pq (q_conv rfl (cv3_90_i64 _) rfl) ?_
 obtain ⟨n4, h5, h⟩ := bindS h
 refine pq (q_bin rfl rfl (p_shl h5) rfl) ?_
 refine pq (qa (.one (uI n4))) ?_
 refine oE (eS (lR ?_))
 obtain rfl := sj h
 exact eF1

noncomputable def flags_Has (s1 : Sl (Int)) (n2 : Int) : Option (Bool) :=
  ((flags_within s1 n2).bind fun b4 => (if b4 = true then ((divO .i64 n2 64).bind fun n5 => ((atS 1 s1 n5).bind fun n9 => ((flags_bit n2).bind fun n11 => (if (andI .u64 n9 n11) ≠ 0 then some true else some false)))) else some false))
theorem flags_Has_r (m : Nat) {s1 : Sl (Int)} {n2 : Int} {out : Bool} (h : flags_Has s1 n2 = some out) : RunsP E1 (m + 2) 50 [.one (Sl.t r61 s1), .one (iT .i64 n2)] (.fresh, [.one (bT out)]) := by
 refine fn_F rfl (by rw [E1_fn]; exact show fiOf Try.prog 50 = _ by unfold fiOf; rw [Try.func50]; unfold Try.f50; rfl) rfl ?_
 dsimp only
 unfold flags_Has at h
 refine lS (lO ?_)
 refine pq (qa bf) ?_
 refine oE (eS (lS ?_))
 refine L_still (by kernel_rfl) ?_
 refine sq (qm (.one (sF r61 s1))) ?_
 refine sq (qm (iO n2)) ?_
 obtain ⟨b4, h3, h⟩ := bindS h
 refine sq (qc (bO b4) [.one (sF r61 s1), iO n2] (flags_within_r (m + 0) h3) (vw_cons (vd_one vc_s) (vw_cons (vd_one vc_v) vw_nil))) ?_
 refine sq (qm (bO b4)) ?_
 rcases b4 with _ | _
 replace h := wF h
 iterate 9 refine ss ?_
 refine sq (qpf bf) ?_
 refine sq (qa bf) ?_
 refine st_end (eS (lR ?_))
 obtain rfl := sj h
 exact eF1
 replace h := wT h
 refine sq (qm (.one (sF r61 s1))) ?_
 refine sq (qm (iO n2)) ?_
 obtain ⟨n5, h6, h⟩ := bindS h
 refine sq (q_bin rfl rfl (divO_p h6) rfl) ?_
 obtain ⟨n9, h8, h⟩ := bindS h
 obtain ⟨h8a, h8b, h8⟩ := atS_some h8
 refine sq (q_ixS rfl rfl h8a h8 (el33.trans (congrArg some h8b.symm))) ?_
 refine sq (q_loadI (v := .one (uI n9)) rfl sz61 (map_get h8) rfl rfl) ?_
 refine sq (qm (iO n2)) ?_
 obtain ⟨n11, h10, h⟩ := bindS h
 refine sq (qc (.one (uI n11)) [iO n2] (flags_bit_r (m + 0) h10) (vw_cons (vd_one vc_v) vw_nil)) ?_
 refine sq (q_bin rfl rfl (p_and _ _ _ _ _ _ _) rfl) ?_
 by_cases c12 : (andI .u64 n9 n11) ≠ 0
 replace h := ifT c12 h
 refine sq (qb (p_neq_tZ c12)) ?_
 refine sq (qpt bt) ?_
 refine sq (qa bt) ?_
 refine st_end (eS (lR ?_))
 obtain rfl := sj h
 exact eF1
 replace h := ifF c12 h
 refine sq (qb (p_neq_fZ c12)) ?_
 refine sq (qpt bf) ?_
 refine sq (qa bf) ?_
 refine st_end (eS (lR ?_))
 obtain rfl := sj h
 exact eF1

noncomputable def blend_Mask_b1 (s3 : Sl (Int)) (s9 : Sl (Int × Int)) (a : Bool × Int × (List (Int × Int))) : Option ((Bool × Int × (List (Int × Int))) ⊕ ((List (Int × Int)) ⊕ (Int × (Sl (Int × Int))))) :=
  match a with
  | (b65, n66, l67) => (if n66 < ((s9.l.length : Nat) : Int) then ((atS 2 s9 n66).bind fun (n72, n73) => ((flags_Has s3 n72).bind fun b76 => (if b76 = true then (if b65 = true then some (.inl (true, (IntKind.i64.wrap (n66 + 1)), l67)) else ((app l67 ([(n72, n73)] : List (Int × Int))).bind fun _ => some (.inl (false, (IntKind.i64.wrap (n66 + 1)), (l67 ++ ([(n72, n73)] : List (Int × Int))))))) else (if b65 = true then ((app l67 ([(n72, n73)] : List (Int × Int))).bind fun _ => some (.inl (true, (IntKind.i64.wrap (n66 + 1)), (l67 ++ ([(n72, n73)] : List (Int × Int)))))) else some (.inl (false, (IntKind.i64.wrap (n66 + 1)), l67)))))) else some (.inr (.inl l67)))
noncomputable def blend_Mask (a0 : Int × (Sl (Int × Int))) (s3 : Sl (Int)) (b4 : Bool) : Option ((Int × (Sl (Int × Int)))) :=
  match a0 with
  | (n1, s2) => ((blend_sure (n1, s2)).bind fun (n8, s9) => ((loopO (blend_Mask_b1 s3 s9) (b4, 0, ([] : List (Int × Int)))).bind (Sum.elim (fun l83 => some (n8, (mo 2 l83))) (fun u => some u))))
theorem blend_Mask_r (m : Nat) {a0 : Int × (Sl (Int × Int))} {s3 : Sl (Int)} {b4 : Bool} {out : (Int × (Sl (Int × Int)))} (h : blend_Mask a0 s3 b4 = some out) : RunsP E1 (m + 4) 21 [.agg (r24 a0), .one (Sl.t r61 s3), .one (bT b4)] (.fresh, [.agg (r24 out)]) := by
 obtain ⟨n1, s2⟩ := a0
 refine fn_F rfl (by rw [E1_fn]; exact show fiOf Try.prog 21 = _ by unfold fiOf; rw [Try.func21]; unfold Try.f21; rfl) rfl ?_
 dsimp only
 unfold blend_Mask at h
 refine lS (lO ?_)
 refine ol_new rfl rfl rfl (q_box ty25 rfl (cs := [iI n1, sF r56 s2]) rfl rfl) (fun k5 => ?_)
 refine ol_new rfl rfl rfl (q_alloc ty25 (row := [iI 0, nC]) rfl rfl) (fun k6 => ?_)
 refine oN ?_
 refine pq (ql (.agg [iI n1, sF r56 s2]) 1 sz25) ?_
 obtain ⟨⟨n8, s9⟩, h7, h⟩ := bindS h
 refine ol_putX rfl rfl rfl (q_callX (v := fun fr10 => .agg [iI n8, .p fr10 (Sl.t r56 s9)]) (args := [.agg [iI n1, sF r56 s2]]) (blend_sure_r (m + 0) h7) rfl rfl (vw_cons (vd_agg (vc_cons vc_v (vc_cons vc_s vc_nil))) vw_nil) rfl rfl (fun fr => rfl)) (fun fr10 => ?_)
 refine ow [[iI n8, .p fr10 (Sl.t r56 s9)]] 1 sz25 ?_
 refine oN ?_
 refine pq (q_fieldP rfl fa25_0 rfl) ?_
 refine pq (ql (iO n8) 1 sz3) ?_
 refine pq (q_build (cs := [iI n8, nC]) ty25 rfl pl25 rfl) ?_
 refine ol_new rfl rfl rfl (q_alloc ty25 (row := [iI 0, nC]) rfl rfl) (fun k11 => ?_)
 refine ow [[iI n8, nC]] 0 sz25 ?_
 refine oE (eS (lS (lS (lO ?_))))
 refine pq (q_fieldP rfl fa25_1 rfl) ?_
 refine pq (ql (.one (.p fr10 (Sl.t r56 s9))) 2 sz23) ?_
 refine pq (q_lenS rfl ty23 rfl rfl rfl rfl) ?_
 refine pq (qm (iO 0)) ?_
 refine oE (eS (lB ?_))
 refine L_addM (α := Int × Int) r56 2 ?_
 let S1 : (Bool × Int × (List (Int × Int))) → Nat → (Nat → D) → Nat → D := fun a kt g => ups g [(1, .one (sF r61 s3)), (2, .one (bC a.1)), (6, .one (.ptr k6 0 0)), (7, .one (.ptr k11 0 0)), (16, .one (.p fr10 (Sl.t r56 s9))), (17, .one (iI ((s9.l.length : Nat) : Int))), (18, .one (iI a.2.1))]
 let SL1 : (Bool × Int × (List (Int × Int))) → Nat → BL := fun a kt => ([[(k6, 2, [[iI 0, nC]])], [(k11, 2, [[iI n8, moC a.2.2 kt]])], moL r56 2 a.2.2 kt] : BL)
 let G1 : (Int × (Sl (Int × Int))) → Ex → St → Prop := fun u => endQ E1 [.cell 6 25] (.fresh, [.agg (r24 u)])
 let Sx1 : (List (Int × Int)) → Nat → (Nat → D) → Nat → D := fun a kt g => ups g [(6, .one (.ptr k6 0 0)), (7, .one (.ptr k11 0 0))]
 let SLx1 : (List (Int × Int)) → Nat → BL := fun a kt => ([[(k6, 2, [[iI 0, nC]])], [(k11, 2, [[iI n8, moC a kt]])], moL r56 2 a kt] : BL)
 let J1 : ((List (Int × Int)) ⊕ (Int × (Sl (Int × Int)))) → Ex → St → Prop := JX 36 0 Sx1 SLx1 G1
 refine L_loopS (blend_Mask_b1 s3 s9) S1 SL1 J1 JX_n (b4, 0, ([] : List (Int × Int))) h 1063 (ups_self ⟨rfl, rfl, rfl, rfl, rfl, rfl, rfl, trivial⟩) [2, 1, 0] (by decide) rfl ?_ ?_
 rintro ⟨b65, n66, l67⟩ k68 g out h
 change blend_Mask_b1 s3 s9 (b65, n66, l67) = some out at h
 unfold blend_Mask_b1 at h
 refine lS (lO ?_)
 by_cases c69 : n66 < ((s9.l.length : Nat) : Int)
 replace h := ifT c69 h
 refine pq (qb (p_lss_tZ c69)) ?_
 refine oE (eS (lS (cT rfl (lK (eS (lS (lB (lS (lO ?_)))))))))
 obtain ⟨⟨n72, n73⟩, h71, h⟩ := bindS h
 obtain ⟨h71a, h71b, h71⟩ := atS_some h71
 refine pq (q_ixS rfl rfl h71a h71 (el23.trans (congrArg some h71b.symm))) ?_
 refine pq (q_loadI (v := .agg [iI n72, iI n73]) rfl sz57 (map_get h71) rfl rfl) ?_
 refine ol_new rfl rfl rfl (q_alloc ty57 (row := [iI 0, iI 0]) rfl rfl) (fun k74 => ?_)
 refine ow [[iI n72, iI n73]] 0 sz57 ?_
 refine oN ?_
 refine pq (qm (.one (sF r61 s3))) ?_
 refine pq (q_fieldP rfl fa57_0 rfl) ?_
 refine pq (ql (iO n72) 0 sz3) ?_
 obtain ⟨b76, h75, h⟩ := bindS h
 refine pq (qc (bO b76) [.one (sF r61 s3), iO n72] (flags_Has_r (m + 1) h75) (vw_cons (vd_one vc_s) (vw_cons (vd_one vc_v) vw_nil))) ?_
 refine pq (qm (bO b65)) ?_
 rcases b76 with _ | _
 replace h := wF h
 rcases b65 with _ | _
 replace h := wF h
 refine pq (q_binB rfl rfl (eqneqB4 _ _ _ _) rfl) ?_
 refine oE (eS (cF rfl (lK (bN (eS (lO ?_))))))
 refine pq (qb p_addY) ?_
 refine pq (qm (iO (IntKind.i64.wrap (n66 + 1)))) ?_
 refine oE ?_
 obtain rfl := sj h
 exact E_next k68 (ups_self ⟨rfl, rfl, rfl, rfl, rfl, rfl, rfl, trivial⟩) [1, 2, 3] (by decide) rfl
 replace h := wT h
 refine pq (q_binB rfl rfl (eqneqB4 _ _ _ _) rfl) ?_
 refine oE (eS (cT rfl (lO ?_)))
 refine pq (q_fieldP rfl fa25_1 rfl) ?_
 refine pq (ql (.one (moC l67 k68)) 2 sz23) ?_
 refine pq (ql (.agg [iI n72, iI n73]) 0 sz57) ?_
 refine ol_new rfl rfl rfl (q_bslice (cs := [iI n72, iI n73]) (es := (([(n72, n73)] : List (Int × Int))).map (rowC r56)) ty23 rfl ty57 rfl rfl rfl rfl rfl) (fun k77 => ?_)
 obtain ⟨_, h78, h⟩ := bindS h
 obtain ⟨h78b, rfl⟩ := app_some h78
 refine ol_appM (r := r56) (l := l67) (ys := ([(n72, n73)] : List (Int × Int))) 4 rfl rfl rfl rfl rfl rfl (el_ownM (l := ([(n72, n73)] : List (Int × Int))) 0 rfl) rfl h78 (fun y => rfl) el23 ty23 rfl rfl rfl rfl rfl (fun k79 => ?_)
 refine pq (q_fieldP rfl fa25_1 rfl) ?_
 refine ow [[iI n8, moC (l67 ++ ([(n72, n73)] : List (Int × Int))) k79]] 4 sz23 ?_
 refine oE (bN (eS (lO ?_)))
 refine pq (qb p_addY) ?_
 refine pq (qm (iO (IntKind.i64.wrap (n66 + 1)))) ?_
 refine oE ?_
 obtain rfl := sj h
 exact E_next k79 (ups_self ⟨rfl, rfl, rfl, rfl, rfl, rfl, rfl, trivial⟩) [3, 4, 0] (by decide) rfl
 replace h := wT h
 rcases b65 with _ | _
 replace h := wF h
 refine pq (q_binB rfl rfl (eqneqB4 _ _ _ _) rfl) ?_
 refine oE (eS (cT rfl (lO ?_)))
 refine pq (q_fieldP rfl fa25_1 rfl) ?_
 refine pq (ql (.one (moC l67 k68)) 2 sz23) ?_
 refine pq (ql (.agg [iI n72, iI n73]) 0 sz57) ?_
 refine ol_new rfl rfl rfl (q_bslice (cs := [iI n72, iI n73]) (es := (([(n72, n73)] : List (Int × Int))).map (rowC r56)) ty23 rfl ty57 rfl rfl rfl rfl rfl) (fun k80 => ?_)
 obtain ⟨_, h81, h⟩ := bindS h
 obtain ⟨h81b, rfl⟩ := app_some h81
 refine ol_appM (r := r56) (l := l67) (ys := ([(n72, n73)] : List (Int × Int))) 4 rfl rfl rfl rfl rfl rfl (el_ownM (l := ([(n72, n73)] : List (Int × Int))) 0 rfl) rfl h81 (fun y => rfl) el23 ty23 rfl rfl rfl rfl rfl (fun k82 => ?_)
 refine pq (q_fieldP rfl fa25_1 rfl) ?_
 refine ow [[iI n8, moC (l67 ++ ([(n72, n73)] : List (Int × Int))) k82]] 4 sz23 ?_
 refine oE (bN (eS (lO ?_)))
 refine pq (qb p_addY) ?_
 refine pq (qm (iO (IntKind.i64.wrap (n66 + 1)))) ?_
 refine oE ?_
 obtain rfl := sj h
 exact E_next k82 (ups_self ⟨rfl, rfl, rfl, rfl, rfl, rfl, rfl, trivial⟩) [3, 4, 0] (by decide) rfl
 replace h := wT h
 refine pq (q_binB rfl rfl (eqneqB4 _ _ _ _) rfl) ?_
 refine oE (eS (cF rfl (lK (bN (eS (lO ?_))))))
 refine pq (qb p_addY) ?_
 refine pq (qm (iO (IntKind.i64.wrap (n66 + 1)))) ?_
 refine oE ?_
 obtain rfl := sj h
 exact E_next k68 (ups_self ⟨rfl, rfl, rfl, rfl, rfl, rfl, rfl, trivial⟩) [1, 2, 3] (by decide) rfl
 replace h := ifF c69 h
 refine pq (qb (p_lss_fZ c69)) ?_
 refine oE (eS (lS (cF rfl (L_exit ?_))))
 refine E_seqX ?_
 obtain rfl := sj h
 refine E_out ?_
 exact (E_exit k68 (ups_self ⟨rfl, rfl, trivial⟩) [0, 1, 2] (by decide) rfl)
 rintro (l83 | u) h
 refine J_x (fun k84 g => ?_)
 replace h := elimL h
 refine bH (eS (lS (lO ?_)))
 refine pq (ql (.agg [iI n8, moC l83 k84]) 1 sz25) ?_
 refine ow [[iI n8, moC l83 k84]] 0 sz25 ?_
 refine oE (eS (lR ?_))
 obtain rfl := sj h
 exact E_endF (.inr rfl) (res_cell (d := .agg [iI n8, moC l83 k84]) 0 rfl sz25 rfl rfl rfl rfl res_nil) (vw_cons (vd_agg (vc_cons vc_v (vc_cons (vc_M (r := r56) 2 rfl (fun x h m => rfl)) vc_nil))) vw_nil) oG rfl rfl
 obtain rfl := Option.some.inj (elimR h)
 exact J_up (fun s hs => hs)
end Ev
end Go.Proofs.Ytlcfdmjkbaegpaa
