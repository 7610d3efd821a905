/- Functions of the program as functions on data, and that they are. -/
import Derived.Test.YtioagbejilllfaaLf1
import Derived.Test.YtioagbejilllfaaLf2
import Derived.Test.YtioagbejilllfaaLy1
namespace Go.Proofs.Ytioagbejilllfaa
namespace Ev
open Go
set_option linter.unusedVariables false
set_option linter.unusedSimpArgs false
set_option maxRecDepth 100000
set_option maxHeartbeats 1000000
attribute [local irreducible] OpsL StL TnL WpL EndL
noncomputable def ref05_below (a0 : Int × Int × Int) (a1 : Int × Int × Int) : Option (Bool) :=
  match a0, a1 with
  | (n1, n2, n3), (n4, n5, n6) => (if n1 < n4 then some true else (if n1 = n4 then (if n2 < n5 then some true else some false) else some false))
theorem ref05_below_r (m : Nat) {a0 : Int × Int × Int} {a1 : Int × Int × Int} {out : Bool} (h : ref05_below a0 a1 = some out) : RunsP E1 (m + 1) 80 [.agg (r98 a0), .agg (r98 a1)] (.fresh, [.one (bT out)]) := by
  obtain ⟨n1, n2, n3⟩ := a0
  obtain ⟨n4, n5, n6⟩ := a1
  refine fn_F rfl (by rw [E1_fn]; exact show fiOf Try.prog 80 = _ by unfold fiOf; rw [Try.func80]; unfold Try.f80; rfl) rfl ?_
  dsimp only
  unfold ref05_below at h
  refine L_seq ?_
  refine L_ops ?_
  refine ol_new rfl rfl rfl (q_box ty99 rfl (cs := [iC .i64 n1, iC .i64 n2, iC .i64 n3]) rfl rfl) (fun k7 => ?_)
  refine ol_new rfl rfl rfl (q_box ty99 rfl (cs := [iC .i64 n4, iC .i64 n5, iC .i64 n6]) rfl rfl) (fun k8 => ?_)
  refine ol_put rfl rfl rfl (q_assign (v := .one (bC false)) rfl) ?_
  refine ol_end ?_
  refine E_seq ?_
  refine L_seq ?_
  refine L_ops ?_
  refine ol_put rfl rfl rfl (q_fieldP rfl fa99_0 rfl) ?_
  refine ol_put rfl rfl rfl (q_loadP (v := .one (iC .i64 n1)) 1 rfl sz3 rfl rfl rfl rfl) ?_
  refine ol_put rfl rfl rfl (q_fieldP rfl fa99_0 rfl) ?_
  refine ol_put rfl rfl rfl (q_loadP (v := .one (iC .i64 n4)) 0 rfl sz3 rfl rfl rfl rfl) ?_
  by_cases c9 : n1 < n4
  · replace h := ifT c9 h
    refine ol_put rfl rfl rfl (q_bin rfl rfl (p_lss_t _ _ _ _ _ c9) rfl) ?_
    refine ol_put rfl rfl rfl (q_move (v := .one (bC true)) rfl) ?_
    refine ol_skip rfl rfl rfl ?_
    refine ol_skip rfl rfl rfl ?_
    refine ol_skip rfl rfl rfl ?_
    refine ol_skip rfl rfl rfl ?_
    refine ol_skip rfl rfl rfl ?_
    refine ol_skip rfl rfl rfl ?_
    refine ol_skip rfl rfl rfl ?_
    refine ol_skip rfl rfl rfl ?_
    refine ol_skip rfl rfl rfl ?_
    refine ol_skip rfl rfl rfl ?_
    refine ol_skip rfl rfl rfl ?_
    refine ol_skip rfl rfl rfl ?_
    refine ol_put rfl rfl rfl (q_pickT (v := .one (bC true)) rfl rfl) ?_
    refine ol_put rfl rfl rfl (q_assign (v := .one (bC true)) rfl) ?_
    refine ol_end ?_
    refine E_seq ?_
    refine L_ret ?_
    obtain rfl := Option.some.inj h
    exact E_endF (.inr rfl) (res_tmp rfl res_nil) (vw_cons (vd_one vc_v) vw_nil) (fun h hb => own_p) rfl rfl
  · replace h := ifF c9 h
    refine ol_put rfl rfl rfl (q_bin rfl rfl (p_lss_f _ _ _ _ _ c9) rfl) ?_
    refine ol_put rfl rfl rfl (q_move (v := .one (bC false)) rfl) ?_
    refine ol_put rfl rfl rfl (q_fieldP rfl fa99_0 rfl) ?_
    refine ol_put rfl rfl rfl (q_loadP (v := .one (iC .i64 n1)) 1 rfl sz3 rfl rfl rfl rfl) ?_
    refine ol_put rfl rfl rfl (q_fieldP rfl fa99_0 rfl) ?_
    refine ol_put rfl rfl rfl (q_loadP (v := .one (iC .i64 n4)) 0 rfl sz3 rfl rfl rfl rfl) ?_
    by_cases c10 : n1 = n4
    · replace h := ifT c10 h
      refine ol_put rfl rfl rfl (q_bin rfl rfl (p_eql_t _ _ _ _ _ c10) rfl) ?_
      refine ol_put rfl rfl rfl (q_move (v := .one (bC true)) rfl) ?_
      refine ol_put rfl rfl rfl (q_fieldP rfl fa99_1 rfl) ?_
      refine ol_put rfl rfl rfl (q_loadP (v := .one (iC .i64 n2)) 1 rfl sz3 rfl rfl rfl rfl) ?_
      refine ol_put rfl rfl rfl (q_fieldP rfl fa99_1 rfl) ?_
      refine ol_put rfl rfl rfl (q_loadP (v := .one (iC .i64 n5)) 0 rfl sz3 rfl rfl rfl rfl) ?_
      by_cases c11 : n2 < n5
      · replace h := ifT c11 h
        refine ol_put rfl rfl rfl (q_bin rfl rfl (p_lss_t _ _ _ _ _ c11) rfl) ?_
        refine ol_put rfl rfl rfl (q_pickT (v := .one (bC true)) rfl rfl) ?_
        refine ol_put rfl rfl rfl (q_pickF (v := .one (bC true)) rfl rfl) ?_
        refine ol_put rfl rfl rfl (q_assign (v := .one (bC true)) rfl) ?_
        refine ol_end ?_
        refine E_seq ?_
        refine L_ret ?_
        obtain rfl := Option.some.inj h
        exact E_endF (.inr rfl) (res_tmp rfl res_nil) (vw_cons (vd_one vc_v) vw_nil) (fun h hb => own_p) rfl rfl
      · replace h := ifF c11 h
        refine ol_put rfl rfl rfl (q_bin rfl rfl (p_lss_f _ _ _ _ _ c11) rfl) ?_
        refine ol_put rfl rfl rfl (q_pickT (v := .one (bC false)) rfl rfl) ?_
        refine ol_put rfl rfl rfl (q_pickF (v := .one (bC false)) rfl rfl) ?_
        refine ol_put rfl rfl rfl (q_assign (v := .one (bC false)) rfl) ?_
        refine ol_end ?_
        refine E_seq ?_
        refine L_ret ?_
        obtain rfl := Option.some.inj h
        exact E_endF (.inr rfl) (res_tmp rfl res_nil) (vw_cons (vd_one vc_v) vw_nil) (fun h hb => own_p) rfl rfl
    · replace h := ifF c10 h
      refine ol_put rfl rfl rfl (q_bin rfl rfl (p_eql_f _ _ _ _ _ c10) rfl) ?_
      refine ol_put rfl rfl rfl (q_move (v := .one (bC false)) rfl) ?_
      refine ol_skip rfl rfl rfl ?_
      refine ol_skip rfl rfl rfl ?_
      refine ol_skip rfl rfl rfl ?_
      refine ol_skip rfl rfl rfl ?_
      refine ol_skip rfl rfl rfl ?_
      refine ol_put rfl rfl rfl (q_pickF (v := .one (bC false)) rfl rfl) ?_
      refine ol_put rfl rfl rfl (q_pickF (v := .one (bC false)) rfl rfl) ?_
      refine ol_put rfl rfl rfl (q_assign (v := .one (bC false)) rfl) ?_
      refine ol_end ?_
      refine E_seq ?_
      refine L_ret ?_
      obtain rfl := Option.some.inj h
      exact E_endF (.inr rfl) (res_tmp rfl res_nil) (vw_cons (vd_one vc_v) vw_nil) (fun h hb => own_p) rfl rfl

noncomputable def ref05_Combine_b3 (n518 : Int) (a : (List (Int × Int × Int)) × (List (Int × Int)) × Int) : Option (((List (Int × Int × Int)) × (List (Int × Int)) × Int) ⊕ (((List (Int × Int × Int)) × (List (Int × Int))) ⊕ (((List (Int × Int × Int)) × (List (Int × Int)) × Int) ⊕ (((List (Int × Int × Int)) × (List (Int × Int))) ⊕ ((Sl (Int × Int × Int)) × Int))))) :=
  match a with
  | (l613, l614, n615) => (if n615 > n518 then ((atS 3 (mo 3 l613) (IntKind.i64.wrap (n615 - 1))).bind fun (n621, n622, n623) => ((atS 3 (mo 3 l613) n615).bind fun (n626, n627, n628) => ((atS 2 (mo 2 l614) (IntKind.i64.wrap (n615 - 1))).bind fun (n631, n632) => ((atS 2 (mo 2 l614) n615).bind fun (n635, n636) => some (.inl ((l613.set n615.toNat (n621, n622, n623)), (l614.set n615.toNat (n631, n632)), (IntKind.i64.wrap (n615 - 1)))))))) else some (.inr (.inl (l613, l614))))
noncomputable def ref05_Combine_b4 (n518 : Int) (a : (List (Int × Int × Int)) × (List (Int × Int)) × Int) : Option (((List (Int × Int × Int)) × (List (Int × Int)) × Int) ⊕ (((List (Int × Int × Int)) × (List (Int × Int))) ⊕ (((List (Int × Int × Int)) × (List (Int × Int)) × Int) ⊕ (((List (Int × Int × Int)) × (List (Int × Int))) ⊕ ((Sl (Int × Int × Int)) × Int))))) :=
  match a with
  | (l725, l726, n727) => (if n727 > n518 then ((atS 3 (mo 3 l725) (IntKind.i64.wrap (n727 - 1))).bind fun (n733, n734, n735) => ((atS 3 (mo 3 l725) n727).bind fun (n738, n739, n740) => ((atS 2 (mo 2 l726) (IntKind.i64.wrap (n727 - 1))).bind fun (n743, n744) => ((atS 2 (mo 2 l726) n727).bind fun (n747, n748) => some (.inl ((l725.set n727.toNat (n733, n734, n735)), (l726.set n727.toNat (n743, n744)), (IntKind.i64.wrap (n727 - 1)))))))) else some (.inr (.inl (l725, l726))))
noncomputable def ref05_Combine_b2 (s2 : Sl (Int × Int × Int)) (l471 : List (Int × Int × Int)) (n473 : Int) (n504 : Int) : Option (Int ⊕ (Int ⊕ (((List (Int × Int × Int)) × (List (Int × Int)) × Int) ⊕ (((List (Int × Int × Int)) × (List (Int × Int))) ⊕ ((Sl (Int × Int × Int)) × Int))))) :=
  (if n504 < ((l471.length : Nat) : Int) then ((atS 3 (mo 3 l471) n504).bind fun (n508, n509, n510) => ((atS 3 s2 n473).bind fun (n513, n514, n515) => ((ref05_below (n508, n509, n510) (n513, n514, n515)).bind fun b517 => (if b517 = true then some (.inl (IntKind.i64.wrap (n504 + 1))) else some (.inr (.inl n504)))))) else some (.inr (.inl n504)))
noncomputable def ref05_Combine_b5 (l789 : List (Int × Int)) (a : (List (Int × Int × Int)) × Int) : Option (((List (Int × Int × Int)) × Int) ⊕ ((List (Int × Int × Int)) ⊕ ((Sl (Int × Int × Int)) × Int))) :=
  match a with
  | (l821, n822) => (if n822 < ((l821.length : Nat) : Int) then ((atS 2 (mo 2 l789) n822).bind fun (n827, n828) => ((ref01_Narrow (n827, n828)).bind fun (n830, b831) => (if b831 = true then ((atS 3 (mo 3 l821) n822).bind fun (n834, n835, n836) => some (.inl ((l821.set n822.toNat (n834, n835, n830)), (IntKind.i64.wrap (n822 + 1))))) else some (.inr (.inr ((⟨false, 0, []⟩ : Sl (Int × Int × Int)), 12)))))) else some (.inr (.inl l821)))
noncomputable def ref05_Combine_b1 (n1 : Int) (s2 : Sl (Int × Int × Int)) (a : (List (Int × Int × Int)) × (List (Int × Int)) × Int) : Option (((List (Int × Int × Int)) × (List (Int × Int)) × Int) ⊕ (((List (Int × Int × Int)) × (List (Int × Int))) ⊕ ((Sl (Int × Int × Int)) × Int))) :=
  match a with
  | (l471, l472, n473) => (if n473 < ((s2.l.length : Nat) : Int) then ((loopO (ref05_Combine_b2 s2 l471 n473) 0).bind (Sum.elim (fun n518 => ((atS 3 s2 n473).bind fun (n521, n522, n523) => ((ref01_Of n523).bind fun (n525, n526) => (if n518 < ((l471.length : Nat) : Int) then ((atS 3 s2 n473).bind fun (n531, n532, n533) => ((atS 3 (mo 3 l471) n518).bind fun (n536, n537, n538) => ((ref05_below (n531, n532, n533) (n536, n537, n538)).bind fun b540 => (if b540 = true then ((app l471 ([(0, 0, 0)] : List (Int × Int × Int))).bind fun _ => ((app l472 ([(0, 0)] : List (Int × Int))).bind fun _ => ((loopO (ref05_Combine_b3 n518) ((l471 ++ ([(0, 0, 0)] : List (Int × Int × Int))), (l472 ++ ([(0, 0)] : List (Int × Int))), (IntKind.i64.wrap ((((l471 ++ ([(0, 0, 0)] : List (Int × Int × Int))).length : Nat) : Int) - 1)))).bind (Sum.elim (fun ⟨l637, l638⟩ => ((atS 3 s2 n473).bind fun (n659, n660, n661) => ((atS 3 s2 n473).bind fun (n664, n665, n666) => ((atS 3 (mo 3 l637) n518).bind fun (n669, n670, n671) => ((atS 2 (mo 2 l638) n518).bind fun (n674, n675) => some (.inl ((l637.set n518.toNat (n659, n665, 0)), (l638.set n518.toNat (n525, n526)), (IntKind.i64.wrap (n473 + 1))))))))) (fun u => some u))))) else ((atS 2 (mo 2 l472) n518).bind fun (n555, n556) => ((ref02_Add n1 (n555, n556) (n525, n526)).bind fun (n558, n559) => ((atS 2 (mo 2 l472) n518).bind fun (n562, n563) => some (.inl (l471, (l472.set n518.toNat (n558, n559)), (IntKind.i64.wrap (n473 + 1))))))))))) else ((app l471 ([(0, 0, 0)] : List (Int × Int × Int))).bind fun _ => ((app l472 ([(0, 0)] : List (Int × Int))).bind fun _ => ((loopO (ref05_Combine_b4 n518) ((l471 ++ ([(0, 0, 0)] : List (Int × Int × Int))), (l472 ++ ([(0, 0)] : List (Int × Int))), (IntKind.i64.wrap ((((l471 ++ ([(0, 0, 0)] : List (Int × Int × Int))).length : Nat) : Int) - 1)))).bind (Sum.elim (fun ⟨l749, l750⟩ => ((atS 3 s2 n473).bind fun (n771, n772, n773) => ((atS 3 s2 n473).bind fun (n776, n777, n778) => ((atS 3 (mo 3 l749) n518).bind fun (n781, n782, n783) => ((atS 2 (mo 2 l750) n518).bind fun (n786, n787) => some (.inl ((l749.set n518.toNat (n771, n777, 0)), (l750.set n518.toNat (n525, n526)), (IntKind.i64.wrap (n473 + 1))))))))) (fun u => some u))))))))) (fun u => some u))) else some (.inr (.inl (l471, l472))))
noncomputable def ref05_Combine (n1 : Int) (s2 : Sl (Int × Int × Int)) : Option ((Sl (Int × Int × Int)) × Int) :=
  ((ref02_Is n1).bind fun b4 => (if b4 = true then ((loopO (ref05_Combine_b1 n1 s2) (([] : List (Int × Int × Int)), ([] : List (Int × Int)), 0)).bind (Sum.elim (fun ⟨l788, l789⟩ => ((loopO (ref05_Combine_b5 l789) (l788, 0)).bind (Sum.elim (fun l837 => some ((mo 3 l837), 0)) (fun u => some u)))) (fun u => some u))) else some ((⟨false, 0, []⟩ : Sl (Int × Int × Int)), 8)))
theorem ref05_Combine_r (m : Nat) {n1 : Int} {s2 : Sl (Int × Int × Int)} {out : (Sl (Int × Int × Int)) × Int} (h : ref05_Combine n1 s2 = some out) : RunsP E1 (m + 3) 72 [.one (iT .i64 n1), .one (Sl.t r98 s2)] (.fresh, [.one (Sl.t r98 out.1), .one (iT .i64 out.2)]) := by
  refine fn_F rfl (by rw [E1_fn]; exact show fiOf Try.prog 72 = _ by unfold fiOf; rw [Try.func72]; unfold Try.f72; rfl) rfl ?_
  dsimp only
  unfold ref05_Combine at h
  refine L_seq ?_
  refine L_ops ?_
  refine ol_put rfl rfl rfl (q_assign (v := .one (.p true (Sl.t r98 (⟨false, 0, []⟩ : Sl (Int × Int × Int))))) rfl) ?_
  refine ol_put rfl rfl rfl (q_assign (v := .one (iC .i64 0)) rfl) ?_
  refine ol_end ?_
  refine E_seq ?_
  refine L_seq ?_
  refine L_seq ?_
  refine L_ops ?_
  refine ol_put rfl rfl rfl (q_move (v := .one (iC .i64 n1)) rfl) ?_
  obtain ⟨b4, h3, h⟩ := bindS h
  refine ol_put rfl rfl rfl (q_callF (v := .one (bC b4)) (args := [.one (iC .i64 n1)]) (ref02_Is_r (m + 1) h3) rfl rfl (vw_cons (vd_one vc_v) vw_nil) rfl rfl) ?_
  rcases b4 with _ | _
  · replace h := ifF (by decide) h
    refine ol_put rfl rfl rfl (q_not rfl) ?_
    refine ol_end ?_
    refine E_seq ?_
    refine L_condT rfl ?_
    refine L_seq ?_
    refine L_ops ?_
    refine ol_put rfl rfl rfl (q_assign (v := .one (.p true (Sl.t r98 (⟨false, 0, []⟩ : Sl (Int × Int × Int))))) rfl) ?_
    refine ol_put rfl rfl rfl (q_assign (v := .one (iC .i64 8)) rfl) ?_
    refine ol_end ?_
    refine E_seq ?_
    refine L_ret ?_
    refine E_seqR ?_
    obtain rfl := Option.some.inj h
    exact E_endF (.inr rfl) (res_tmp rfl (res_tmp rfl res_nil)) (vw_cons (vd_one vc_s) (vw_cons (vd_one vc_v) vw_nil)) (fun h hb => own_no2) rfl rfl
  · replace h := ifT (by decide) h
    refine ol_put rfl rfl rfl (q_not rfl) ?_
    refine ol_end ?_
    refine E_seq ?_
    refine L_condF rfl ?_
    refine L_skip ?_
    refine E_seq ?_
    refine L_seq ?_
    refine L_ops ?_
    refine ol_put rfl rfl rfl (q_assign (v := .one (.p true (Sl.t r98 (⟨false, 0, []⟩ : Sl (Int × Int × Int))))) rfl) ?_
    refine ol_end ?_
    refine E_seq ?_
    refine L_seq ?_
    refine L_ops ?_
    refine ol_put rfl rfl rfl (q_assign (v := .one (.p true (Sl.t r55 (⟨false, 0, []⟩ : Sl (Int × Int))))) rfl) ?_
    refine ol_end ?_
    refine E_seq ?_
    refine L_seq ?_
    refine L_seq ?_
    refine L_ops ?_
    refine ol_put rfl rfl rfl (q_assign (v := .one (iC .i64 0)) rfl) ?_
    refine ol_end ?_
    refine E_seq ?_
    refine L_block ?_
    refine L_addM (α := Int × Int × Int) r98 3 ?_
    refine L_addM (α := Int × Int) r55 2 ?_
    let S1 : ((List (Int × Int × Int)) × (List (Int × Int)) × Int) → (Nat × Nat) → (Nat → D) → Nat → D := fun a kt g => ups g [(0, .one (iC .i64 n1)), (1, .one (.p false (Sl.t r98 s2))), (6, .one (moC a.1 kt.1)), (7, .one (moC a.2.1 kt.2)), (8, .one (iC .i64 a.2.2))]
    let SL1 : ((List (Int × Int × Int)) × (List (Int × Int)) × Int) → (Nat × Nat) → BL := fun a kt => ([moL r98 3 a.1 kt.1, moL r55 2 a.2.1 kt.2] : BL)
    let Sx1 : ((List (Int × Int × Int)) × (List (Int × Int))) → (Nat × Nat) → (Nat → D) → Nat → D := fun a kt g => ups g [(6, .one (moC a.1 kt.1)), (7, .one (moC a.2 kt.2))]
    let SLx1 : ((List (Int × Int × Int)) × (List (Int × Int))) → (Nat × Nat) → BL := fun a kt => ([moL r98 3 a.1 kt.1, moL r55 2 a.2 kt.2] : BL)
    let G1 : ((Sl (Int × Int × Int)) × Int) → Ex → St → Prop := fun u => endQ E1 [.tmp 4, .tmp 5] (.fresh, [.one (Sl.t r98 u.1), .one (iT .i64 u.2)])
    let J1 : (((List (Int × Int × Int)) × (List (Int × Int))) ⊕ ((Sl (Int × Int × Int)) × Int)) → Ex → St → Prop := JX 145 0 Sx1 SLx1 G1
    refine L_loopS (ref05_Combine_b1 n1 s2) S1 SL1 J1 JX_n (([] : List (Int × Int × Int)), ([] : List (Int × Int)), 0) h (1468, 1469) (ups_self ⟨rfl, rfl, rfl, rfl, rfl, trivial⟩) [1, 0] (by decide) rfl ?_ ?_
    · rintro ⟨l471, l472, n473⟩ ⟨k474, k475⟩ g out h
      change ref05_Combine_b1 n1 s2 (l471, l472, n473) = some out at h
      unfold ref05_Combine_b1 at h
      refine L_seq ?_
      refine L_seq ?_
      refine L_ops ?_
      refine ol_put rfl rfl rfl (q_move (v := .one (iC .i64 n473)) rfl) ?_
      refine ol_put rfl rfl rfl (q_move (v := .one (.p false (Sl.t r98 s2))) rfl) ?_
      refine ol_put rfl rfl rfl (q_lenS rfl ty97 rfl rfl rfl rfl) ?_
      by_cases c476 : n473 < ((s2.l.length : Nat) : Int)
      · replace h := ifT c476 h
        refine ol_put rfl rfl rfl (q_bin rfl rfl (p_lss_t _ _ _ _ _ c476) rfl) ?_
        refine ol_end ?_
        refine E_seq ?_
        refine L_condT rfl ?_
        refine L_skip ?_
        refine E_seq ?_
        refine L_seq ?_
        refine L_block ?_
        refine L_seq ?_
        refine L_ops ?_
        refine ol_put rfl rfl rfl (q_assign (v := .one (iC .i64 0)) rfl) ?_
        refine ol_end ?_
        refine E_seq ?_
        refine L_seq ?_
        refine L_block ?_
        let S2 : Int → Unit → (Nat → D) → Nat → D := fun a kt g => ups g [(0, .one (iC .i64 n1)), (1, .one (.p false (Sl.t r98 s2))), (6, .one (moC l471 k474)), (7, .one (moC l472 k475)), (8, .one (iC .i64 n473)), (9, .one (iC .i64 a))]
        let SL2 : Int → Unit → BL := fun a kt => ([moL r98 3 l471 k474, moL r55 2 l472 k475] : BL)
        let Sx2 : Int → Unit → (Nat → D) → Nat → D := fun a kt g => ups g [(0, .one (iC .i64 n1)), (1, .one (.p false (Sl.t r98 s2))), (6, .one (moC l471 k474)), (7, .one (moC l472 k475)), (8, .one (iC .i64 n473)), (9, .one (iC .i64 a))]
        let SLx2 : Int → Unit → BL := fun a kt => ([moL r98 3 l471 k474, moL r55 2 l472 k475] : BL)
        let G2 : (((List (Int × Int × Int)) × (List (Int × Int)) × Int) ⊕ (((List (Int × Int × Int)) × (List (Int × Int))) ⊕ ((Sl (Int × Int × Int)) × Int))) → Ex → St → Prop := LQ 145 S1 SL1 J1
        let J2 : (Int ⊕ (((List (Int × Int × Int)) × (List (Int × Int)) × Int) ⊕ (((List (Int × Int × Int)) × (List (Int × Int))) ⊕ ((Sl (Int × Int × Int)) × Int)))) → Ex → St → Prop := JX 145 2 Sx2 SLx2 G2
        refine L_loopS (ref05_Combine_b2 s2 l471 n473) S2 SL2 J2 JX_n 0 h () (ups_self ⟨rfl, rfl, rfl, rfl, rfl, rfl, trivial⟩) [0, 1] (by decide) rfl ?_ ?_
        · rintro n504 _ g out h
          change ref05_Combine_b2 s2 l471 n473 n504 = some out at h
          unfold ref05_Combine_b2 at h
          refine L_seq ?_
          refine L_seq ?_
          refine L_still (by kernel_rfl) ?_
          refine st_put rfl rfl rfl (q_move (v := .one (iC .i64 n504)) rfl) ?_
          refine st_put rfl rfl rfl (q_move (v := .one (moC l471 k474)) rfl) ?_
          refine st_put rfl rfl rfl (q_lenM (l := l471) rfl ty97 rfl rfl rfl rfl) ?_
          by_cases c505 : n504 < ((l471.length : Nat) : Int)
          · replace h := ifT c505 h
            refine st_put rfl rfl rfl (q_bin rfl rfl (p_lss_t _ _ _ _ _ c505) rfl) ?_
            refine st_put rfl rfl rfl (q_move (v := .one (bC true)) rfl) ?_
            refine st_put rfl rfl rfl (q_move (v := .one (moC l471 k474)) rfl) ?_
            refine st_put rfl rfl rfl (q_move (v := .one (iC .i64 n504)) rfl) ?_
            obtain ⟨⟨n508, n509, n510⟩, h507, h⟩ := bindS h
            obtain ⟨h507a, h507⟩ := atM_some h507
            refine st_put rfl rfl rfl (q_ixM (r := r98) 0 rfl rfl h507a h507 rfl el97) ?_
            refine st_put rfl rfl rfl (q_loadP (v := .agg [iC .i64 n508, iC .i64 n509, iC .i64 n510]) 0 rfl sz99 (segM (r := r98) rfl h507) (map_get h507) rfl rfl) ?_
            refine st_put rfl rfl rfl (q_move (v := .one (.p false (Sl.t r98 s2))) rfl) ?_
            refine st_put rfl rfl rfl (q_move (v := .one (iC .i64 n473)) rfl) ?_
            obtain ⟨⟨n513, n514, n515⟩, h512, h⟩ := bindS h
            obtain ⟨h512a, h512b, h512⟩ := atS_some h512
            refine st_put rfl rfl rfl (q_ixS rfl rfl h512a h512 (el97.trans (congrArg some h512b.symm))) ?_
            refine st_put rfl rfl rfl (q_loadI (v := .agg [iC .i64 n513, iC .i64 n514, iC .i64 n515]) rfl sz99 (map_get h512) rfl rfl) ?_
            obtain ⟨b517, h516, h⟩ := bindS h
            refine st_put rfl rfl rfl (q_callF (v := .one (bC b517)) (args := [.agg [iC .i64 n508, iC .i64 n509, iC .i64 n510], .agg [iC .i64 n513, iC .i64 n514, iC .i64 n515]]) (ref05_below_r (m + 1) h516) rfl rfl (vw_cons (vd_agg (vc_cons vc_v (vc_cons vc_v (vc_cons vc_v vc_nil)))) (vw_cons (vd_agg (vc_cons vc_v (vc_cons vc_v (vc_cons vc_v vc_nil)))) vw_nil)) rfl rfl) ?_
            refine st_put rfl rfl rfl (q_pickT (v := .one (bC b517)) rfl rfl) ?_
            refine st_end ?_
            refine E_seq ?_
            rcases b517 with _ | _
            · replace h := ifF (by decide) h
              refine L_condF rfl ?_
              refine L_exit ?_
              refine E_seqX ?_
              obtain rfl := Option.some.inj h
              refine E_out ?_
              exact (E_exit () (ups_self ⟨rfl, rfl, rfl, rfl, rfl, rfl, trivial⟩) [0, 1] (by decide) rfl)
            · replace h := ifT (by decide) h
              refine L_condT rfl ?_
              refine L_skip ?_
              refine E_seq ?_
              refine L_block ?_
              refine L_ops ?_
              refine ol_put rfl rfl rfl (q_move (v := .one (iC .i64 n504)) rfl) ?_
              refine ol_put rfl rfl rfl (q_bin rfl rfl (p_add _ _ _ _ _ _ _) rfl) ?_
              refine ol_put rfl rfl rfl (q_assign (v := .one (iC .i64 (IntKind.i64.wrap (n504 + 1)))) rfl) ?_
              refine ol_end ?_
              refine E_blkN ?_
              obtain rfl := Option.some.inj h
              exact E_next () (ups_self ⟨rfl, rfl, rfl, rfl, rfl, rfl, trivial⟩) [0, 1] (by decide) rfl
          · replace h := ifF c505 h
            refine st_put rfl rfl rfl (q_bin rfl rfl (p_lss_f _ _ _ _ _ c505) rfl) ?_
            refine st_put rfl rfl rfl (q_move (v := .one (bC false)) rfl) ?_
            refine st_skip rfl rfl rfl ?_
            refine st_skip rfl rfl rfl ?_
            refine st_skip rfl rfl rfl ?_
            refine st_skip rfl rfl rfl ?_
            refine st_skip rfl rfl rfl ?_
            refine st_skip rfl rfl rfl ?_
            refine st_skip rfl rfl rfl ?_
            refine st_skip rfl rfl rfl ?_
            refine st_skip rfl rfl rfl ?_
            refine st_put rfl rfl rfl (q_pickF (v := .one (bC false)) rfl rfl) ?_
            refine st_end ?_
            refine E_seq ?_
            refine L_condF rfl ?_
            refine L_exit ?_
            refine E_seqX ?_
            obtain rfl := Option.some.inj h
            refine E_out ?_
            exact (E_exit () (ups_self ⟨rfl, rfl, rfl, rfl, rfl, rfl, trivial⟩) [0, 1] (by decide) rfl)
        · rintro (n518 | u) h
          · refine J_x (fun kt g => ?_)
            replace h := elimL h
            refine E_blkH ?_
            refine E_seq ?_
            refine L_seq ?_
            refine L_ops ?_
            refine ol_put rfl rfl rfl (q_move (v := .one (.p false (Sl.t r98 s2))) rfl) ?_
            refine ol_put rfl rfl rfl (q_move (v := .one (iC .i64 n473)) rfl) ?_
            obtain ⟨⟨n521, n522, n523⟩, h520, h⟩ := bindS h
            obtain ⟨h520a, h520b, h520⟩ := atS_some h520
            refine ol_put rfl rfl rfl (q_ixS rfl rfl h520a h520 (el97.trans (congrArg some h520b.symm))) ?_
            refine ol_put rfl rfl rfl (q_fieldI rfl fa99_2 rfl) ?_
            refine ol_put rfl rfl rfl (q_loadI (v := .one (iC .i64 n523)) rfl sz2 (map_get h520) rfl rfl) ?_
            obtain ⟨⟨n525, n526⟩, h524, h⟩ := bindS h
            refine ol_put rfl rfl rfl (q_callF (v := .agg [iC .i64 n525, iC .u64 n526]) (args := [.one (iC .i64 n523)]) (ref01_Of_r (m + 1) h524) rfl rfl (vw_cons (vd_one vc_v) vw_nil) rfl rfl) ?_
            refine ol_new rfl rfl rfl (q_alloc ty56 (row := [iC .i64 0, iC .u64 0]) rfl rfl) (fun k527 => ?_)
            refine ol_wr rfl rfl (q_store (es' := [[iC .i64 n525, iC .u64 n526]]) 0 rfl rfl rfl sz56 rfl rfl rfl rfl rfl) rfl ?_
            refine ol_end ?_
            refine E_seq ?_
            refine L_seq ?_
            refine L_seq ?_
            refine L_still (by kernel_rfl) ?_
            refine st_put rfl rfl rfl (q_move (v := .one (iC .i64 n518)) rfl) ?_
            refine st_put rfl rfl rfl (q_move (v := .one (moC l471 k474)) rfl) ?_
            refine st_put rfl rfl rfl (q_lenM (l := l471) rfl ty97 rfl rfl rfl rfl) ?_
            by_cases c528 : n518 < ((l471.length : Nat) : Int)
            · replace h := ifT c528 h
              refine st_put rfl rfl rfl (q_bin rfl rfl (p_lss_t _ _ _ _ _ c528) rfl) ?_
              refine st_put rfl rfl rfl (q_move (v := .one (bC true)) rfl) ?_
              refine st_put rfl rfl rfl (q_move (v := .one (.p false (Sl.t r98 s2))) rfl) ?_
              refine st_put rfl rfl rfl (q_move (v := .one (iC .i64 n473)) rfl) ?_
              obtain ⟨⟨n531, n532, n533⟩, h530, h⟩ := bindS h
              obtain ⟨h530a, h530b, h530⟩ := atS_some h530
              refine st_put rfl rfl rfl (q_ixS rfl rfl h530a h530 (el97.trans (congrArg some h530b.symm))) ?_
              refine st_put rfl rfl rfl (q_loadI (v := .agg [iC .i64 n531, iC .i64 n532, iC .i64 n533]) rfl sz99 (map_get h530) rfl rfl) ?_
              refine st_put rfl rfl rfl (q_move (v := .one (moC l471 k474)) rfl) ?_
              refine st_put rfl rfl rfl (q_move (v := .one (iC .i64 n518)) rfl) ?_
              obtain ⟨⟨n536, n537, n538⟩, h535, h⟩ := bindS h
              obtain ⟨h535a, h535⟩ := atM_some h535
              refine st_put rfl rfl rfl (q_ixM (r := r98) 1 rfl rfl h535a h535 rfl el97) ?_
              refine st_put rfl rfl rfl (q_loadP (v := .agg [iC .i64 n536, iC .i64 n537, iC .i64 n538]) 1 rfl sz99 (segM (r := r98) rfl h535) (map_get h535) rfl rfl) ?_
              obtain ⟨b540, h539, h⟩ := bindS h
              refine st_put rfl rfl rfl (q_callF (v := .one (bC b540)) (args := [.agg [iC .i64 n531, iC .i64 n532, iC .i64 n533], .agg [iC .i64 n536, iC .i64 n537, iC .i64 n538]]) (ref05_below_r (m + 1) h539) rfl rfl (vw_cons (vd_agg (vc_cons vc_v (vc_cons vc_v (vc_cons vc_v vc_nil)))) (vw_cons (vd_agg (vc_cons vc_v (vc_cons vc_v (vc_cons vc_v vc_nil)))) vw_nil)) rfl rfl) ?_
              rcases b540 with _ | _
              · replace h := ifF (by decide) h
                refine st_put rfl rfl rfl (q_not rfl) ?_
                refine st_put rfl rfl rfl (q_pickT (v := .one (bC true)) rfl rfl) ?_
                refine st_end ?_
                refine E_seq ?_
                refine L_condT rfl ?_
                refine L_seq ?_
                refine L_norm (L2 := ([[(k527, 2, [[iC .i64 n525, iC .u64 n526]])], moL r98 3 l471 k474, moL r55 2 l472 k475] : BL)) [0, 1, 2] (by decide) rfl ?_
                refine L_turn 11 rfl [[], [], [], [], [], [], [], [], [], [], moK l472 k475] [(false, []), (false, []), (false, []), (false, []), (false, []), (false, []), (false, []), (false, []), (false, []), (false, []), (false, [])] [[1, 2, 3, 4, 5, 6, 7, 8], [0, 2, 3, 4, 5, 6, 7, 8], [0, 1, 3, 4, 5, 6, 7], [0, 1, 2, 4, 7], [0, 1, 2, 3, 7], [0, 1, 2, 7], [0, 1, 2, 7], [0, 1, 2, 3, 4, 5, 6], [0, 1], [], []] (by kernel_rfl) (by kernel_rfl) (by kernel_rfl) ?_ (fun bb541 hlt hnd => ?_)
                · intro bb541 hlt hnd
                  have e_k527 : k527 < bb541 := key_lt hlt 0 rfl
                  have e_k474 : l471 = [] ∨ k474 < bb541 := key_ltM (r := r98) (w := 3) hlt 1 rfl
                  have e_k475 : l472 = [] ∨ k475 < bb541 := key_ltM (r := r55) (w := 2) hlt 2 rfl
                  have f_k475 := moK_lt e_k475
                  have d_k475_k527 : k527 ∉ moK l472 k475 := key_neM (r := r55) (w := 2) hnd 2 0 rfl rfl rfl
                  have g_k475_k527 := moK_ne d_k475_k527
                  exact ⟨(by first | (simp; done) | (simp; omega) | (simp; assumption) | (simp_all; done) | (simp_all; omega)), (by first | (simp; done) | (simp; omega) | (simp; assumption) | (simp_all; done) | (simp_all; omega))⟩
                have e_k527 : k527 < bb541 := key_lt hlt 0 rfl
                have e_k474 : l471 = [] ∨ k474 < bb541 := key_ltM (r := r98) (w := 3) hlt 1 rfl
                have e_k475 : l472 = [] ∨ k475 < bb541 := key_ltM (r := r55) (w := 2) hlt 2 rfl
                have f_k475 := moK_lt e_k475
                have d_k475_k527 : k527 ∉ moK l472 k475 := key_neM (r := r55) (w := 2) hnd 2 0 rfl rfl rfl
                have g_k475_k527 := moK_ne d_k475_k527
                clear hlt hnd
                refine tn_put rfl rfl rfl [] (by decide) rfl (hm0 rfl) rfl (q_move (v := .one (moC l472 k475)) rfl) ?_
                refine tn_put rfl rfl rfl [] (by decide) rfl (hm0 rfl) rfl (q_move (v := .one (iC .i64 n518)) rfl) ?_
                refine tn_put rfl rfl rfl [] (by decide) rfl (hm0 rfl) rfl (q_move (v := .one (iC .i64 n1)) rfl) ?_
                refine tn_put rfl rfl rfl [] (by decide) rfl (hm0 rfl) rfl (q_move (v := .one (moC l472 k475)) rfl) ?_
                refine tn_put rfl rfl rfl [] (by decide) rfl (hm0 rfl) rfl (q_move (v := .one (iC .i64 n518)) rfl) ?_
                obtain ⟨⟨n555, n556⟩, h554, h⟩ := bindS h
                obtain ⟨h554a, h554⟩ := atM_some h554
                refine tn_put rfl rfl rfl [2] (by decide) rfl (hm0 rfl) rfl (q_ixM (r := r55) 0 rfl rfl h554a h554 rfl el110) ?_
                refine tn_put rfl rfl rfl [2] (by decide) rfl (hm0 rfl) rfl (q_loadP (v := .agg [iC .i64 n555, iC .u64 n556]) 0 rfl sz56 (segM (r := r55) rfl h554) (map_get h554) rfl rfl) ?_
                refine tn_put rfl rfl rfl [0] (by decide) rfl (hm0 rfl) rfl (q_loadP (v := .agg [iC .i64 n525, iC .u64 n526]) 0 rfl sz56 rfl rfl rfl rfl) ?_
                obtain ⟨⟨n558, n559⟩, h557, h⟩ := bindS h
                refine tn_put rfl rfl rfl [] (by decide) rfl (hm0 rfl) rfl (q_callF (v := .agg [iC .i64 n558, iC .u64 n559]) (args := [.one (iC .i64 n1), .agg [iC .i64 n555, iC .u64 n556], .agg [iC .i64 n525, iC .u64 n526]]) (ref02_Add_r (m + 0) h557) rfl rfl (vw_cons (vd_one vc_v) (vw_cons (vd_agg (vc_cons vc_v (vc_cons vc_v vc_nil))) (vw_cons (vd_agg (vc_cons vc_v (vc_cons vc_v vc_nil))) vw_nil))) rfl rfl) ?_
                obtain ⟨⟨n562, n563⟩, h561, h⟩ := bindS h
                obtain ⟨h561a, h561⟩ := atM_some h561
                refine tn_put rfl rfl rfl [2] (by decide) rfl (hm0 rfl) rfl (q_ixM (r := r55) 0 rfl rfl h561a h561 rfl el110) ?_
                refine tn_wr rfl rfl [2] (by decide) rfl (hm0 rfl) (huM h561 rfl) (q_store (e' := rowC r55 (n558, n559)) (es' := ((l472.set n518.toNat (n558, n559))).map (rowC r55)) 0 rfl rfl rfl sz56 rfl (segM (r := r55) rfl h561) (map_get h561) rfl map_set) (q := 2) (segM (r := r55) rfl h561) (congrArg (fun z => List.set _ 2 z) (setM (r := r55) h561)) ?_
                refine tn_re 7 (v := .one (moC (l472.set n518.toNat (n558, n559)) k475)) (Eq.trans (b := .one (moC l472 k475)) rfl (congrArg D.one moC_set)) ?_
                refine tn_re 63 (v := .one (moC (l472.set n518.toNat (n558, n559)) k475)) (Eq.trans (b := .one (moC l472 k475)) rfl (congrArg D.one moC_set)) ?_
                refine tn_re 66 (v := .one (moC (l472.set n518.toNat (n558, n559)) k475)) (Eq.trans (b := .one (moC l472 k475)) rfl (congrArg D.one moC_set)) ?_
                refine tn_end ?_
                refine E_seq ?_
                refine L_exit ?_
                refine E_seqX ?_
                refine E_blkH ?_
                refine E_seq ?_
                refine L_ops ?_
                refine ol_put rfl rfl rfl (q_move (v := .one (iC .i64 n473)) rfl) ?_
                refine ol_put rfl rfl rfl (q_bin rfl rfl (p_add _ _ _ _ _ _ _) rfl) ?_
                refine ol_put rfl rfl rfl (q_assign (v := .one (iC .i64 (IntKind.i64.wrap (n473 + 1)))) rfl) ?_
                refine ol_end ?_
                obtain rfl := Option.some.inj h
                exact E_next (k474, k475) (ups_self ⟨rfl, rfl, rfl, rfl, rfl, trivial⟩) [1, 2] (by decide) rfl
              · replace h := ifT (by decide) h
                refine st_put rfl rfl rfl (q_not rfl) ?_
                refine st_put rfl rfl rfl (q_pickT (v := .one (bC false)) rfl rfl) ?_
                refine st_end ?_
                refine E_seq ?_
                refine L_condF rfl ?_
                refine L_skip ?_
                refine E_seq ?_
                refine L_seq ?_
                refine L_ops ?_
                refine ol_put rfl rfl rfl (q_move (v := .one (moC l471 k474)) rfl) ?_
                refine ol_put rfl rfl rfl (q_build (cs := [iC .i64 0, iC .i64 0, iC .i64 0]) ty99 rfl pl99 rfl) ?_
                refine ol_new rfl rfl rfl (q_bslice (cs := [iC .i64 0, iC .i64 0, iC .i64 0]) (es := (([(0, 0, 0)] : List (Int × Int × Int))).map (rowC r98)) ty97 rfl ty99 rfl rfl rfl rfl rfl) (fun k564 => ?_)
                obtain ⟨_, h565, h⟩ := bindS h
                obtain ⟨h565b, rfl⟩ := app_some h565
                refine ol_appM (r := r98) (l := l471) (ys := ([(0, 0, 0)] : List (Int × Int × Int))) 2 rfl rfl rfl rfl rfl rfl (el_ownM (l := ([(0, 0, 0)] : List (Int × Int × Int))) 0 rfl) rfl h565 (fun y => rfl) el97 ty97 rfl rfl rfl rfl rfl (fun k566 => ?_)
                refine ol_put rfl rfl rfl (q_assign (v := .one (moC (l471 ++ ([(0, 0, 0)] : List (Int × Int × Int))) k566)) rfl) ?_
                refine ol_end ?_
                refine E_seq ?_
                refine L_seq ?_
                refine L_ops ?_
                refine ol_put rfl rfl rfl (q_move (v := .one (moC l472 k475)) rfl) ?_
                refine ol_put rfl rfl rfl (q_build (cs := [iC .i64 0, iC .u64 0]) ty56 rfl pl56 rfl) ?_
                refine ol_new rfl rfl rfl (q_bslice (cs := [iC .i64 0, iC .u64 0]) (es := (([(0, 0)] : List (Int × Int))).map (rowC r55)) ty110 rfl ty56 rfl rfl rfl rfl rfl) (fun k567 => ?_)
                obtain ⟨_, h568, h⟩ := bindS h
                obtain ⟨h568b, rfl⟩ := app_some h568
                refine ol_appM (r := r55) (l := l472) (ys := ([(0, 0)] : List (Int × Int))) 4 rfl rfl rfl rfl rfl rfl (el_ownM (l := ([(0, 0)] : List (Int × Int))) 0 rfl) rfl h568 (fun y => rfl) el110 ty110 rfl rfl rfl rfl rfl (fun k569 => ?_)
                refine ol_put rfl rfl rfl (q_assign (v := .one (moC (l472 ++ ([(0, 0)] : List (Int × Int))) k569)) rfl) ?_
                refine ol_end ?_
                refine E_seq ?_
                refine L_seq ?_
                refine L_seq ?_
                refine L_ops ?_
                refine ol_put rfl rfl rfl (q_move (v := .one (moC (l471 ++ ([(0, 0, 0)] : List (Int × Int × Int))) k566)) rfl) ?_
                refine ol_put rfl rfl rfl (q_lenM (l := (l471 ++ ([(0, 0, 0)] : List (Int × Int × Int)))) rfl ty97 rfl rfl rfl rfl) ?_
                refine ol_put rfl rfl rfl (q_bin rfl rfl (p_sub _ _ _ _ _ _ _) rfl) ?_
                refine ol_put rfl rfl rfl (q_assign (v := .one (iC .i64 (IntKind.i64.wrap ((((l471 ++ ([(0, 0, 0)] : List (Int × Int × Int))).length : Nat) : Int) - 1)))) rfl) ?_
                refine ol_end ?_
                refine E_seq ?_
                refine L_block ?_
                let S3 : ((List (Int × Int × Int)) × (List (Int × Int)) × Int) → (Nat × Nat) → (Nat → D) → Nat → D := fun a kt g => ups g [(0, .one (iC .i64 n1)), (1, .one (.p false (Sl.t r98 s2))), (6, .one (moC a.1 kt.1)), (7, .one (moC a.2.1 kt.2)), (8, .one (iC .i64 n473)), (9, .one (iC .i64 n518)), (10, .one (.ptr k527 0 0)), (11, .one (iC .i64 a.2.2)), (52, .one (.p false (Sl.t r98 s2))), (53, .one (iC .i64 n473)), (55, .agg [iC .i64 n531, iC .i64 n532, iC .i64 n533]), (57, .one (iC .i64 n518)), (59, .agg [iC .i64 n536, iC .i64 n537, iC .i64 n538]), (60, .one (bC true)), (61, .one (bC false))]
                let SL3 : ((List (Int × Int × Int)) × (List (Int × Int)) × Int) → (Nat × Nat) → BL := fun a kt => ([[(k527, 2, [[iC .i64 n525, iC .u64 n526]])], moL r98 3 a.1 kt.1, moL r55 2 a.2.1 kt.2] : BL)
                let Sx3 : ((List (Int × Int × Int)) × (List (Int × Int))) → (Nat × Nat) → (Nat → D) → Nat → D := fun a kt g => ups g [(0, .one (iC .i64 n1)), (1, .one (.p false (Sl.t r98 s2))), (6, .one (moC a.1 kt.1)), (7, .one (moC a.2 kt.2)), (8, .one (iC .i64 n473)), (9, .one (iC .i64 n518)), (10, .one (.ptr k527 0 0)), (52, .one (.p false (Sl.t r98 s2))), (53, .one (iC .i64 n473)), (55, .agg [iC .i64 n531, iC .i64 n532, iC .i64 n533]), (57, .one (iC .i64 n518)), (59, .agg [iC .i64 n536, iC .i64 n537, iC .i64 n538]), (60, .one (bC true)), (61, .one (bC false))]
                let SLx3 : ((List (Int × Int × Int)) × (List (Int × Int))) → (Nat × Nat) → BL := fun a kt => ([[(k527, 2, [[iC .i64 n525, iC .u64 n526]])], moL r98 3 a.1 kt.1, moL r55 2 a.2 kt.2] : BL)
                let G3 : (((List (Int × Int × Int)) × (List (Int × Int)) × Int) ⊕ (((List (Int × Int × Int)) × (List (Int × Int))) ⊕ ((Sl (Int × Int × Int)) × Int))) → Ex → St → Prop := LQ 145 S1 SL1 J1
                let J3 : (((List (Int × Int × Int)) × (List (Int × Int))) ⊕ (((List (Int × Int × Int)) × (List (Int × Int)) × Int) ⊕ (((List (Int × Int × Int)) × (List (Int × Int))) ⊕ ((Sl (Int × Int × Int)) × Int)))) → Ex → St → Prop := JX 145 4 Sx3 SLx3 G3
                refine L_loopS (ref05_Combine_b3 n518) S3 SL3 J3 JX_n ((l471 ++ ([(0, 0, 0)] : List (Int × Int × Int))), (l472 ++ ([(0, 0)] : List (Int × Int))), (IntKind.i64.wrap ((((l471 ++ ([(0, 0, 0)] : List (Int × Int × Int))).length : Nat) : Int) - 1))) h (k566, k569) (ups_self ⟨rfl, rfl, rfl, rfl, rfl, rfl, rfl, rfl, rfl, rfl, rfl, rfl, rfl, rfl, rfl, trivial⟩) [4, 2, 0] (by decide) rfl ?_ ?_
                · rintro ⟨l613, l614, n615⟩ ⟨k616, k617⟩ g out h
                  change ref05_Combine_b3 n518 (l613, l614, n615) = some out at h
                  unfold ref05_Combine_b3 at h
                  refine L_seq ?_
                  refine L_seq ?_
                  refine L_ops ?_
                  refine ol_put rfl rfl rfl (q_move (v := .one (iC .i64 n615)) rfl) ?_
                  refine ol_put rfl rfl rfl (q_move (v := .one (iC .i64 n518)) rfl) ?_
                  by_cases c618 : n615 > n518
                  · replace h := ifT c618 h
                    refine ol_put rfl rfl rfl (q_bin rfl rfl (p_gtr_t _ _ _ _ _ c618) rfl) ?_
                    refine ol_end ?_
                    refine E_seq ?_
                    refine L_condT rfl ?_
                    refine L_skip ?_
                    refine E_seq ?_
                    refine L_seq ?_
                    refine L_block ?_
                    refine L_seq ?_
                    refine L_ops ?_
                    refine ol_put rfl rfl rfl (q_move (v := .one (moC l613 k616)) rfl) ?_
                    refine ol_put rfl rfl rfl (q_move (v := .one (iC .i64 n615)) rfl) ?_
                    refine ol_put rfl rfl rfl (q_move (v := .one (moC l613 k616)) rfl) ?_
                    refine ol_put rfl rfl rfl (q_move (v := .one (iC .i64 n615)) rfl) ?_
                    refine ol_put rfl rfl rfl (q_bin rfl rfl (p_sub _ _ _ _ _ _ _) rfl) ?_
                    obtain ⟨⟨n621, n622, n623⟩, h620, h⟩ := bindS h
                    obtain ⟨h620a, h620⟩ := atM_some h620
                    refine ol_put rfl rfl rfl (q_ixM (r := r98) 1 rfl rfl h620a h620 rfl el97) ?_
                    refine ol_put rfl rfl rfl (q_loadP (v := .agg [iC .i64 n621, iC .i64 n622, iC .i64 n623]) 1 rfl sz99 (segM (r := r98) rfl h620) (map_get h620) rfl rfl) ?_
                    obtain ⟨⟨n626, n627, n628⟩, h625, h⟩ := bindS h
                    obtain ⟨h625a, h625⟩ := atM_some h625
                    refine ol_put rfl rfl rfl (q_ixM (r := r98) 1 rfl rfl h625a h625 rfl el97) ?_
                    refine ol_wr rfl rfl (q_store (e' := rowC r98 (n621, n622, n623)) (es' := ((l613.set n615.toNat (n621, n622, n623))).map (rowC r98)) 1 rfl rfl rfl sz99 rfl (segM (r := r98) rfl h625) (map_get h625) rfl map_set) (congrArg (fun z => List.set _ 1 z) (setM (r := r98) h625)) ?_
                    refine ol_re 6 (v := .one (moC (l613.set n615.toNat (n621, n622, n623)) k616)) (Eq.trans (b := .one (moC l613 k616)) rfl (congrArg D.one moC_set)) ?_
                    refine ol_re 89 (v := .one (moC (l613.set n615.toNat (n621, n622, n623)) k616)) (Eq.trans (b := .one (moC l613 k616)) rfl (congrArg D.one moC_set)) ?_
                    refine ol_re 91 (v := .one (moC (l613.set n615.toNat (n621, n622, n623)) k616)) (Eq.trans (b := .one (moC l613 k616)) rfl (congrArg D.one moC_set)) ?_
                    refine ol_end ?_
                    refine E_seq ?_
                    refine L_ops ?_
                    refine ol_put rfl rfl rfl (q_move (v := .one (moC l614 k617)) rfl) ?_
                    refine ol_put rfl rfl rfl (q_move (v := .one (iC .i64 n615)) rfl) ?_
                    refine ol_put rfl rfl rfl (q_move (v := .one (moC l614 k617)) rfl) ?_
                    refine ol_put rfl rfl rfl (q_move (v := .one (iC .i64 n615)) rfl) ?_
                    refine ol_put rfl rfl rfl (q_bin rfl rfl (p_sub _ _ _ _ _ _ _) rfl) ?_
                    obtain ⟨⟨n631, n632⟩, h630, h⟩ := bindS h
                    obtain ⟨h630a, h630⟩ := atM_some h630
                    refine ol_put rfl rfl rfl (q_ixM (r := r55) 2 rfl rfl h630a h630 rfl el110) ?_
                    refine ol_put rfl rfl rfl (q_loadP (v := .agg [iC .i64 n631, iC .u64 n632]) 2 rfl sz56 (segM (r := r55) rfl h630) (map_get h630) rfl rfl) ?_
                    obtain ⟨⟨n635, n636⟩, h634, h⟩ := bindS h
                    obtain ⟨h634a, h634⟩ := atM_some h634
                    refine ol_put rfl rfl rfl (q_ixM (r := r55) 2 rfl rfl h634a h634 rfl el110) ?_
                    refine ol_wr rfl rfl (q_store (e' := rowC r55 (n631, n632)) (es' := ((l614.set n615.toNat (n631, n632))).map (rowC r55)) 2 rfl rfl rfl sz56 rfl (segM (r := r55) rfl h634) (map_get h634) rfl map_set) (congrArg (fun z => List.set _ 2 z) (setM (r := r55) h634)) ?_
                    refine ol_re 7 (v := .one (moC (l614.set n615.toNat (n631, n632)) k617)) (Eq.trans (b := .one (moC l614 k617)) rfl (congrArg D.one moC_set)) ?_
                    refine ol_re 97 (v := .one (moC (l614.set n615.toNat (n631, n632)) k617)) (Eq.trans (b := .one (moC l614 k617)) rfl (congrArg D.one moC_set)) ?_
                    refine ol_re 99 (v := .one (moC (l614.set n615.toNat (n631, n632)) k617)) (Eq.trans (b := .one (moC l614 k617)) rfl (congrArg D.one moC_set)) ?_
                    refine ol_end ?_
                    refine E_blkN ?_
                    refine E_seq ?_
                    refine L_ops ?_
                    refine ol_put rfl rfl rfl (q_move (v := .one (iC .i64 n615)) rfl) ?_
                    refine ol_put rfl rfl rfl (q_bin rfl rfl (p_sub _ _ _ _ _ _ _) rfl) ?_
                    refine ol_put rfl rfl rfl (q_assign (v := .one (iC .i64 (IntKind.i64.wrap (n615 - 1)))) rfl) ?_
                    refine ol_end ?_
                    obtain rfl := Option.some.inj h
                    exact E_next (k616, k617) (ups_self ⟨rfl, rfl, rfl, rfl, rfl, rfl, rfl, rfl, rfl, rfl, rfl, rfl, rfl, rfl, rfl, trivial⟩) [0, 1, 2] (by decide) rfl
                  · replace h := ifF c618 h
                    refine ol_put rfl rfl rfl (q_bin rfl rfl (p_gtr_f _ _ _ _ _ c618) rfl) ?_
                    refine ol_end ?_
                    refine E_seq ?_
                    refine L_condF rfl ?_
                    refine L_exit ?_
                    refine E_seqX ?_
                    obtain rfl := Option.some.inj h
                    refine E_out ?_
                    exact (E_exit (k616, k617) (ups_self ⟨rfl, rfl, rfl, rfl, rfl, rfl, rfl, rfl, rfl, rfl, rfl, rfl, rfl, rfl, trivial⟩) [0, 1, 2] (by decide) rfl)
                · rintro (⟨l637, l638⟩ | u) h
                  · refine J_x (fun kt g => ?_)
                    rcases kt with ⟨k639, k640⟩
                    replace h := elimL h
                    refine E_blkH ?_
                    refine E_seq ?_
                    refine L_seq ?_
                    refine L_norm (L2 := ([[(k527, 2, [[iC .i64 n525, iC .u64 n526]])], moL r98 3 l637 k639, moL r55 2 l638 k640] : BL)) [0, 1, 2] (by decide) rfl ?_
                    refine L_turn 15 rfl [[], [], [], [], [], [], [], [], [], [], [], [], [], [], moK l637 k639] [(false, []), (false, []), (false, []), (false, []), (false, []), (false, []), (false, []), (false, []), (false, []), (false, []), (false, []), (false, []), (false, []), (false, []), (false, [])] [[1, 2, 3, 4, 5, 6, 7, 8, 9, 10, 11, 12], [0, 2, 3, 4, 5, 6, 7, 8, 9, 10, 11, 12], [0, 1, 3, 7, 8, 9, 10, 11], [0, 1, 2, 7, 8, 9, 10, 11], [0, 1, 7, 8, 9, 10, 11], [0, 1, 7, 8, 9, 10, 11], [0, 1, 7, 8, 9, 10, 11], [0, 1, 2, 3, 4, 5, 6, 8], [0, 1, 2, 3, 4, 5, 6, 7], [0, 1, 2, 3, 4, 5, 6], [0, 1, 2, 3, 4, 5, 6], [0, 1, 2, 3, 4, 5, 6], [0, 1], [], []] (by kernel_rfl) (by kernel_rfl) (by kernel_rfl) ?_ (fun bb641 hlt hnd => ?_)
                    · intro bb641 hlt hnd
                      have e_k527 : k527 < bb641 := key_lt hlt 0 rfl
                      have e_k639 : l637 = [] ∨ k639 < bb641 := key_ltM (r := r98) (w := 3) hlt 1 rfl
                      have f_k639 := moK_lt e_k639
                      have e_k640 : l638 = [] ∨ k640 < bb641 := key_ltM (r := r55) (w := 2) hlt 2 rfl
                      have d_k639_k527 : k527 ∉ moK l637 k639 := key_neM (r := r98) (w := 3) hnd 1 0 rfl rfl rfl
                      have g_k639_k527 := moK_ne d_k639_k527
                      exact ⟨(by first | (simp; done) | (simp; omega) | (simp; assumption) | (simp_all; done) | (simp_all; omega)), (by first | (simp; done) | (simp; omega) | (simp; assumption) | (simp_all; done) | (simp_all; omega))⟩
                    have e_k527 : k527 < bb641 := key_lt hlt 0 rfl
                    have e_k639 : l637 = [] ∨ k639 < bb641 := key_ltM (r := r98) (w := 3) hlt 1 rfl
                    have f_k639 := moK_lt e_k639
                    have e_k640 : l638 = [] ∨ k640 < bb641 := key_ltM (r := r55) (w := 2) hlt 2 rfl
                    have d_k639_k527 : k527 ∉ moK l637 k639 := key_neM (r := r98) (w := 3) hnd 1 0 rfl rfl rfl
                    have g_k639_k527 := moK_ne d_k639_k527
                    clear hlt hnd
                    refine tn_put rfl rfl rfl [] (by decide) rfl (hm0 rfl) rfl (q_move (v := .one (moC l637 k639)) rfl) ?_
                    refine tn_put rfl rfl rfl [] (by decide) rfl (hm0 rfl) rfl (q_move (v := .one (iC .i64 n518)) rfl) ?_
                    refine tn_put rfl rfl rfl [] (by decide) rfl (hm0 rfl) rfl (q_move (v := .one (.p false (Sl.t r98 s2))) rfl) ?_
                    refine tn_put rfl rfl rfl [] (by decide) rfl (hm0 rfl) rfl (q_move (v := .one (iC .i64 n473)) rfl) ?_
                    obtain ⟨⟨n659, n660, n661⟩, h658, h⟩ := bindS h
                    obtain ⟨h658a, h658b, h658⟩ := atS_some h658
                    refine tn_put rfl rfl rfl [] (by decide) rfl (hm0 rfl) rfl (q_ixS rfl rfl h658a h658 (el97.trans (congrArg some h658b.symm))) ?_
                    refine tn_put rfl rfl rfl [] (by decide) rfl (hm0 rfl) rfl (q_fieldI rfl fa99_0 rfl) ?_
                    refine tn_put rfl rfl rfl [] (by decide) rfl (hm0 rfl) rfl (q_loadI (v := .one (iC .i64 n659)) rfl sz3 (map_get h658) rfl rfl) ?_
                    refine tn_put rfl rfl rfl [] (by decide) rfl (hm0 rfl) rfl (q_move (v := .one (.p false (Sl.t r98 s2))) rfl) ?_
                    refine tn_put rfl rfl rfl [] (by decide) rfl (hm0 rfl) rfl (q_move (v := .one (iC .i64 n473)) rfl) ?_
                    obtain ⟨⟨n664, n665, n666⟩, h663, h⟩ := bindS h
                    obtain ⟨h663a, h663b, h663⟩ := atS_some h663
                    refine tn_put rfl rfl rfl [] (by decide) rfl (hm0 rfl) rfl (q_ixS rfl rfl h663a h663 (el97.trans (congrArg some h663b.symm))) ?_
                    refine tn_put rfl rfl rfl [] (by decide) rfl (hm0 rfl) rfl (q_fieldI rfl fa99_1 rfl) ?_
                    refine tn_put rfl rfl rfl [] (by decide) rfl (hm0 rfl) rfl (q_loadI (v := .one (iC .i64 n665)) rfl sz3 (map_get h663) rfl rfl) ?_
                    refine tn_put rfl rfl rfl [] (by decide) rfl (hm0 rfl) rfl (q_build (cs := [iC .i64 n659, iC .i64 n665, iC .i64 0]) ty99 rfl pl99 rfl) ?_
                    obtain ⟨⟨n669, n670, n671⟩, h668, h⟩ := bindS h
                    obtain ⟨h668a, h668⟩ := atM_some h668
                    refine tn_put rfl rfl rfl [1] (by decide) rfl (hm0 rfl) rfl (q_ixM (r := r98) 0 rfl rfl h668a h668 rfl el97) ?_
                    refine tn_wr rfl rfl [1] (by decide) rfl (hm0 rfl) (huM h668 rfl) (q_store (e' := rowC r98 (n659, n665, 0)) (es' := ((l637.set n518.toNat (n659, n665, 0))).map (rowC r98)) 0 rfl rfl rfl sz99 rfl (segM (r := r98) rfl h668) (map_get h668) rfl map_set) (q := 1) (segM (r := r98) rfl h668) (congrArg (fun z => List.set _ 1 z) (setM (r := r98) h668)) ?_
                    refine tn_re 6 (v := .one (moC (l637.set n518.toNat (n659, n665, 0)) k639)) (Eq.trans (b := .one (moC l637 k639)) rfl (congrArg D.one moC_set)) ?_
                    refine tn_re 105 (v := .one (moC (l637.set n518.toNat (n659, n665, 0)) k639)) (Eq.trans (b := .one (moC l637 k639)) rfl (congrArg D.one moC_set)) ?_
                    refine tn_end ?_
                    refine E_seq ?_
                    refine L_ops ?_
                    refine ol_put rfl rfl rfl (q_move (v := .one (moC l638 k640)) rfl) ?_
                    refine ol_put rfl rfl rfl (q_move (v := .one (iC .i64 n518)) rfl) ?_
                    refine ol_put rfl rfl rfl (q_loadP (v := .agg [iC .i64 n525, iC .u64 n526]) 0 rfl sz56 rfl rfl rfl rfl) ?_
                    obtain ⟨⟨n674, n675⟩, h673, h⟩ := bindS h
                    obtain ⟨h673a, h673⟩ := atM_some h673
                    refine ol_put rfl rfl rfl (q_ixM (r := r55) 2 rfl rfl h673a h673 rfl el110) ?_
                    refine ol_wr rfl rfl (q_store (e' := rowC r55 (n525, n526)) (es' := ((l638.set n518.toNat (n525, n526))).map (rowC r55)) 2 rfl rfl rfl sz56 rfl (segM (r := r55) rfl h673) (map_get h673) rfl map_set) (congrArg (fun z => List.set _ 2 z) (setM (r := r55) h673)) ?_
                    refine ol_re 7 (v := .one (moC (l638.set n518.toNat (n525, n526)) k640)) (Eq.trans (b := .one (moC l638 k640)) rfl (congrArg D.one moC_set)) ?_
                    refine ol_re 119 (v := .one (moC (l638.set n518.toNat (n525, n526)) k640)) (Eq.trans (b := .one (moC l638 k640)) rfl (congrArg D.one moC_set)) ?_
                    refine ol_end ?_
                    refine E_blkN ?_
                    refine E_seq ?_
                    refine L_ops ?_
                    refine ol_put rfl rfl rfl (q_move (v := .one (iC .i64 n473)) rfl) ?_
                    refine ol_put rfl rfl rfl (q_bin rfl rfl (p_add _ _ _ _ _ _ _) rfl) ?_
                    refine ol_put rfl rfl rfl (q_assign (v := .one (iC .i64 (IntKind.i64.wrap (n473 + 1)))) rfl) ?_
                    refine ol_end ?_
                    obtain rfl := Option.some.inj h
                    exact E_next (k639, k640) (ups_self ⟨rfl, rfl, rfl, rfl, rfl, trivial⟩) [1, 2] (by decide) rfl
                  · obtain rfl := Option.some.inj (elimR h)
                    exact J_up (fun s hs => hs)
            · replace h := ifF c528 h
              refine st_put rfl rfl rfl (q_bin rfl rfl (p_lss_f _ _ _ _ _ c528) rfl) ?_
              refine st_put rfl rfl rfl (q_move (v := .one (bC false)) rfl) ?_
              refine st_skip rfl rfl rfl ?_
              refine st_skip rfl rfl rfl ?_
              refine st_skip rfl rfl rfl ?_
              refine st_skip rfl rfl rfl ?_
              refine st_skip rfl rfl rfl ?_
              refine st_skip rfl rfl rfl ?_
              refine st_skip rfl rfl rfl ?_
              refine st_skip rfl rfl rfl ?_
              refine st_skip rfl rfl rfl ?_
              refine st_skip rfl rfl rfl ?_
              refine st_put rfl rfl rfl (q_pickF (v := .one (bC false)) rfl rfl) ?_
              refine st_end ?_
              refine E_seq ?_
              refine L_condF rfl ?_
              refine L_skip ?_
              refine E_seq ?_
              refine L_seq ?_
              refine L_ops ?_
              refine ol_put rfl rfl rfl (q_move (v := .one (moC l471 k474)) rfl) ?_
              refine ol_put rfl rfl rfl (q_build (cs := [iC .i64 0, iC .i64 0, iC .i64 0]) ty99 rfl pl99 rfl) ?_
              refine ol_new rfl rfl rfl (q_bslice (cs := [iC .i64 0, iC .i64 0, iC .i64 0]) (es := (([(0, 0, 0)] : List (Int × Int × Int))).map (rowC r98)) ty97 rfl ty99 rfl rfl rfl rfl rfl) (fun k676 => ?_)
              obtain ⟨_, h677, h⟩ := bindS h
              obtain ⟨h677b, rfl⟩ := app_some h677
              refine ol_appM (r := r98) (l := l471) (ys := ([(0, 0, 0)] : List (Int × Int × Int))) 2 rfl rfl rfl rfl rfl rfl (el_ownM (l := ([(0, 0, 0)] : List (Int × Int × Int))) 0 rfl) rfl h677 (fun y => rfl) el97 ty97 rfl rfl rfl rfl rfl (fun k678 => ?_)
              refine ol_put rfl rfl rfl (q_assign (v := .one (moC (l471 ++ ([(0, 0, 0)] : List (Int × Int × Int))) k678)) rfl) ?_
              refine ol_end ?_
              refine E_seq ?_
              refine L_seq ?_
              refine L_ops ?_
              refine ol_put rfl rfl rfl (q_move (v := .one (moC l472 k475)) rfl) ?_
              refine ol_put rfl rfl rfl (q_build (cs := [iC .i64 0, iC .u64 0]) ty56 rfl pl56 rfl) ?_
              refine ol_new rfl rfl rfl (q_bslice (cs := [iC .i64 0, iC .u64 0]) (es := (([(0, 0)] : List (Int × Int))).map (rowC r55)) ty110 rfl ty56 rfl rfl rfl rfl rfl) (fun k679 => ?_)
              obtain ⟨_, h680, h⟩ := bindS h
              obtain ⟨h680b, rfl⟩ := app_some h680
              refine ol_appM (r := r55) (l := l472) (ys := ([(0, 0)] : List (Int × Int))) 4 rfl rfl rfl rfl rfl rfl (el_ownM (l := ([(0, 0)] : List (Int × Int))) 0 rfl) rfl h680 (fun y => rfl) el110 ty110 rfl rfl rfl rfl rfl (fun k681 => ?_)
              refine ol_put rfl rfl rfl (q_assign (v := .one (moC (l472 ++ ([(0, 0)] : List (Int × Int))) k681)) rfl) ?_
              refine ol_end ?_
              refine E_seq ?_
              refine L_seq ?_
              refine L_seq ?_
              refine L_ops ?_
              refine ol_put rfl rfl rfl (q_move (v := .one (moC (l471 ++ ([(0, 0, 0)] : List (Int × Int × Int))) k678)) rfl) ?_
              refine ol_put rfl rfl rfl (q_lenM (l := (l471 ++ ([(0, 0, 0)] : List (Int × Int × Int)))) rfl ty97 rfl rfl rfl rfl) ?_
              refine ol_put rfl rfl rfl (q_bin rfl rfl (p_sub _ _ _ _ _ _ _) rfl) ?_
              refine ol_put rfl rfl rfl (q_assign (v := .one (iC .i64 (IntKind.i64.wrap ((((l471 ++ ([(0, 0, 0)] : List (Int × Int × Int))).length : Nat) : Int) - 1)))) rfl) ?_
              refine ol_end ?_
              refine E_seq ?_
              refine L_block ?_
              let S4 : ((List (Int × Int × Int)) × (List (Int × Int)) × Int) → (Nat × Nat) → (Nat → D) → Nat → D := fun a kt g => ups g [(0, .one (iC .i64 n1)), (1, .one (.p false (Sl.t r98 s2))), (6, .one (moC a.1 kt.1)), (7, .one (moC a.2.1 kt.2)), (8, .one (iC .i64 n473)), (9, .one (iC .i64 n518)), (10, .one (.ptr k527 0 0)), (11, .one (iC .i64 a.2.2))]
              let SL4 : ((List (Int × Int × Int)) × (List (Int × Int)) × Int) → (Nat × Nat) → BL := fun a kt => ([[(k527, 2, [[iC .i64 n525, iC .u64 n526]])], moL r98 3 a.1 kt.1, moL r55 2 a.2.1 kt.2] : BL)
              let Sx4 : ((List (Int × Int × Int)) × (List (Int × Int))) → (Nat × Nat) → (Nat → D) → Nat → D := fun a kt g => ups g [(0, .one (iC .i64 n1)), (1, .one (.p false (Sl.t r98 s2))), (6, .one (moC a.1 kt.1)), (7, .one (moC a.2 kt.2)), (8, .one (iC .i64 n473)), (9, .one (iC .i64 n518)), (10, .one (.ptr k527 0 0))]
              let SLx4 : ((List (Int × Int × Int)) × (List (Int × Int))) → (Nat × Nat) → BL := fun a kt => ([[(k527, 2, [[iC .i64 n525, iC .u64 n526]])], moL r98 3 a.1 kt.1, moL r55 2 a.2 kt.2] : BL)
              let G4 : (((List (Int × Int × Int)) × (List (Int × Int)) × Int) ⊕ (((List (Int × Int × Int)) × (List (Int × Int))) ⊕ ((Sl (Int × Int × Int)) × Int))) → Ex → St → Prop := LQ 145 S1 SL1 J1
              let J4 : (((List (Int × Int × Int)) × (List (Int × Int))) ⊕ (((List (Int × Int × Int)) × (List (Int × Int)) × Int) ⊕ (((List (Int × Int × Int)) × (List (Int × Int))) ⊕ ((Sl (Int × Int × Int)) × Int)))) → Ex → St → Prop := JX 145 4 Sx4 SLx4 G4
              refine L_loopS (ref05_Combine_b4 n518) S4 SL4 J4 JX_n ((l471 ++ ([(0, 0, 0)] : List (Int × Int × Int))), (l472 ++ ([(0, 0)] : List (Int × Int))), (IntKind.i64.wrap ((((l471 ++ ([(0, 0, 0)] : List (Int × Int × Int))).length : Nat) : Int) - 1))) h (k678, k681) (ups_self ⟨rfl, rfl, rfl, rfl, rfl, rfl, rfl, rfl, trivial⟩) [4, 2, 0] (by decide) rfl ?_ ?_
              · rintro ⟨l725, l726, n727⟩ ⟨k728, k729⟩ g out h
                change ref05_Combine_b4 n518 (l725, l726, n727) = some out at h
                unfold ref05_Combine_b4 at h
                refine L_seq ?_
                refine L_seq ?_
                refine L_ops ?_
                refine ol_put rfl rfl rfl (q_move (v := .one (iC .i64 n727)) rfl) ?_
                refine ol_put rfl rfl rfl (q_move (v := .one (iC .i64 n518)) rfl) ?_
                by_cases c730 : n727 > n518
                · replace h := ifT c730 h
                  refine ol_put rfl rfl rfl (q_bin rfl rfl (p_gtr_t _ _ _ _ _ c730) rfl) ?_
                  refine ol_end ?_
                  refine E_seq ?_
                  refine L_condT rfl ?_
                  refine L_skip ?_
                  refine E_seq ?_
                  refine L_seq ?_
                  refine L_block ?_
                  refine L_seq ?_
                  refine L_ops ?_
                  refine ol_put rfl rfl rfl (q_move (v := .one (moC l725 k728)) rfl) ?_
                  refine ol_put rfl rfl rfl (q_move (v := .one (iC .i64 n727)) rfl) ?_
                  refine ol_put rfl rfl rfl (q_move (v := .one (moC l725 k728)) rfl) ?_
                  refine ol_put rfl rfl rfl (q_move (v := .one (iC .i64 n727)) rfl) ?_
                  refine ol_put rfl rfl rfl (q_bin rfl rfl (p_sub _ _ _ _ _ _ _) rfl) ?_
                  obtain ⟨⟨n733, n734, n735⟩, h732, h⟩ := bindS h
                  obtain ⟨h732a, h732⟩ := atM_some h732
                  refine ol_put rfl rfl rfl (q_ixM (r := r98) 1 rfl rfl h732a h732 rfl el97) ?_
                  refine ol_put rfl rfl rfl (q_loadP (v := .agg [iC .i64 n733, iC .i64 n734, iC .i64 n735]) 1 rfl sz99 (segM (r := r98) rfl h732) (map_get h732) rfl rfl) ?_
                  obtain ⟨⟨n738, n739, n740⟩, h737, h⟩ := bindS h
                  obtain ⟨h737a, h737⟩ := atM_some h737
                  refine ol_put rfl rfl rfl (q_ixM (r := r98) 1 rfl rfl h737a h737 rfl el97) ?_
                  refine ol_wr rfl rfl (q_store (e' := rowC r98 (n733, n734, n735)) (es' := ((l725.set n727.toNat (n733, n734, n735))).map (rowC r98)) 1 rfl rfl rfl sz99 rfl (segM (r := r98) rfl h737) (map_get h737) rfl map_set) (congrArg (fun z => List.set _ 1 z) (setM (r := r98) h737)) ?_
                  refine ol_re 6 (v := .one (moC (l725.set n727.toNat (n733, n734, n735)) k728)) (Eq.trans (b := .one (moC l725 k728)) rfl (congrArg D.one moC_set)) ?_
                  refine ol_re 89 (v := .one (moC (l725.set n727.toNat (n733, n734, n735)) k728)) (Eq.trans (b := .one (moC l725 k728)) rfl (congrArg D.one moC_set)) ?_
                  refine ol_re 91 (v := .one (moC (l725.set n727.toNat (n733, n734, n735)) k728)) (Eq.trans (b := .one (moC l725 k728)) rfl (congrArg D.one moC_set)) ?_
                  refine ol_end ?_
                  refine E_seq ?_
                  refine L_ops ?_
                  refine ol_put rfl rfl rfl (q_move (v := .one (moC l726 k729)) rfl) ?_
                  refine ol_put rfl rfl rfl (q_move (v := .one (iC .i64 n727)) rfl) ?_
                  refine ol_put rfl rfl rfl (q_move (v := .one (moC l726 k729)) rfl) ?_
                  refine ol_put rfl rfl rfl (q_move (v := .one (iC .i64 n727)) rfl) ?_
                  refine ol_put rfl rfl rfl (q_bin rfl rfl (p_sub _ _ _ _ _ _ _) rfl) ?_
                  obtain ⟨⟨n743, n744⟩, h742, h⟩ := bindS h
                  obtain ⟨h742a, h742⟩ := atM_some h742
                  refine ol_put rfl rfl rfl (q_ixM (r := r55) 2 rfl rfl h742a h742 rfl el110) ?_
                  refine ol_put rfl rfl rfl (q_loadP (v := .agg [iC .i64 n743, iC .u64 n744]) 2 rfl sz56 (segM (r := r55) rfl h742) (map_get h742) rfl rfl) ?_
                  obtain ⟨⟨n747, n748⟩, h746, h⟩ := bindS h
                  obtain ⟨h746a, h746⟩ := atM_some h746
                  refine ol_put rfl rfl rfl (q_ixM (r := r55) 2 rfl rfl h746a h746 rfl el110) ?_
                  refine ol_wr rfl rfl (q_store (e' := rowC r55 (n743, n744)) (es' := ((l726.set n727.toNat (n743, n744))).map (rowC r55)) 2 rfl rfl rfl sz56 rfl (segM (r := r55) rfl h746) (map_get h746) rfl map_set) (congrArg (fun z => List.set _ 2 z) (setM (r := r55) h746)) ?_
                  refine ol_re 7 (v := .one (moC (l726.set n727.toNat (n743, n744)) k729)) (Eq.trans (b := .one (moC l726 k729)) rfl (congrArg D.one moC_set)) ?_
                  refine ol_re 97 (v := .one (moC (l726.set n727.toNat (n743, n744)) k729)) (Eq.trans (b := .one (moC l726 k729)) rfl (congrArg D.one moC_set)) ?_
                  refine ol_re 99 (v := .one (moC (l726.set n727.toNat (n743, n744)) k729)) (Eq.trans (b := .one (moC l726 k729)) rfl (congrArg D.one moC_set)) ?_
                  refine ol_end ?_
                  refine E_blkN ?_
                  refine E_seq ?_
                  refine L_ops ?_
                  refine ol_put rfl rfl rfl (q_move (v := .one (iC .i64 n727)) rfl) ?_
                  refine ol_put rfl rfl rfl (q_bin rfl rfl (p_sub _ _ _ _ _ _ _) rfl) ?_
                  refine ol_put rfl rfl rfl (q_assign (v := .one (iC .i64 (IntKind.i64.wrap (n727 - 1)))) rfl) ?_
                  refine ol_end ?_
                  obtain rfl := Option.some.inj h
                  exact E_next (k728, k729) (ups_self ⟨rfl, rfl, rfl, rfl, rfl, rfl, rfl, rfl, trivial⟩) [0, 1, 2] (by decide) rfl
                · replace h := ifF c730 h
                  refine ol_put rfl rfl rfl (q_bin rfl rfl (p_gtr_f _ _ _ _ _ c730) rfl) ?_
                  refine ol_end ?_
                  refine E_seq ?_
                  refine L_condF rfl ?_
                  refine L_exit ?_
                  refine E_seqX ?_
                  obtain rfl := Option.some.inj h
                  refine E_out ?_
                  exact (E_exit (k728, k729) (ups_self ⟨rfl, rfl, rfl, rfl, rfl, rfl, rfl, trivial⟩) [0, 1, 2] (by decide) rfl)
              · rintro (⟨l749, l750⟩ | u) h
                · refine J_x (fun kt g => ?_)
                  rcases kt with ⟨k751, k752⟩
                  replace h := elimL h
                  refine E_blkH ?_
                  refine E_seq ?_
                  refine L_seq ?_
                  refine L_norm (L2 := ([[(k527, 2, [[iC .i64 n525, iC .u64 n526]])], moL r98 3 l749 k751, moL r55 2 l750 k752] : BL)) [0, 1, 2] (by decide) rfl ?_
                  refine L_turn 15 rfl [[], [], [], [], [], [], [], [], [], [], [], [], [], [], moK l749 k751] [(false, []), (false, []), (false, []), (false, []), (false, []), (false, []), (false, []), (false, []), (false, []), (false, []), (false, []), (false, []), (false, []), (false, []), (false, [])] [[1, 2, 3, 4, 5, 6, 7, 8, 9, 10, 11, 12], [0, 2, 3, 4, 5, 6, 7, 8, 9, 10, 11, 12], [0, 1, 3, 7, 8, 9, 10, 11], [0, 1, 2, 7, 8, 9, 10, 11], [0, 1, 7, 8, 9, 10, 11], [0, 1, 7, 8, 9, 10, 11], [0, 1, 7, 8, 9, 10, 11], [0, 1, 2, 3, 4, 5, 6, 8], [0, 1, 2, 3, 4, 5, 6, 7], [0, 1, 2, 3, 4, 5, 6], [0, 1, 2, 3, 4, 5, 6], [0, 1, 2, 3, 4, 5, 6], [0, 1], [], []] (by kernel_rfl) (by kernel_rfl) (by kernel_rfl) ?_ (fun bb753 hlt hnd => ?_)
                  · intro bb753 hlt hnd
                    have e_k527 : k527 < bb753 := key_lt hlt 0 rfl
                    have e_k751 : l749 = [] ∨ k751 < bb753 := key_ltM (r := r98) (w := 3) hlt 1 rfl
                    have f_k751 := moK_lt e_k751
                    have e_k752 : l750 = [] ∨ k752 < bb753 := key_ltM (r := r55) (w := 2) hlt 2 rfl
                    have d_k751_k527 : k527 ∉ moK l749 k751 := key_neM (r := r98) (w := 3) hnd 1 0 rfl rfl rfl
                    have g_k751_k527 := moK_ne d_k751_k527
                    exact ⟨(by first | (simp; done) | (simp; omega) | (simp; assumption) | (simp_all; done) | (simp_all; omega)), (by first | (simp; done) | (simp; omega) | (simp; assumption) | (simp_all; done) | (simp_all; omega))⟩
                  have e_k527 : k527 < bb753 := key_lt hlt 0 rfl
                  have e_k751 : l749 = [] ∨ k751 < bb753 := key_ltM (r := r98) (w := 3) hlt 1 rfl
                  have f_k751 := moK_lt e_k751
                  have e_k752 : l750 = [] ∨ k752 < bb753 := key_ltM (r := r55) (w := 2) hlt 2 rfl
                  have d_k751_k527 : k527 ∉ moK l749 k751 := key_neM (r := r98) (w := 3) hnd 1 0 rfl rfl rfl
                  have g_k751_k527 := moK_ne d_k751_k527
                  clear hlt hnd
                  refine tn_put rfl rfl rfl [] (by decide) rfl (hm0 rfl) rfl (q_move (v := .one (moC l749 k751)) rfl) ?_
                  refine tn_put rfl rfl rfl [] (by decide) rfl (hm0 rfl) rfl (q_move (v := .one (iC .i64 n518)) rfl) ?_
                  refine tn_put rfl rfl rfl [] (by decide) rfl (hm0 rfl) rfl (q_move (v := .one (.p false (Sl.t r98 s2))) rfl) ?_
                  refine tn_put rfl rfl rfl [] (by decide) rfl (hm0 rfl) rfl (q_move (v := .one (iC .i64 n473)) rfl) ?_
                  obtain ⟨⟨n771, n772, n773⟩, h770, h⟩ := bindS h
                  obtain ⟨h770a, h770b, h770⟩ := atS_some h770
                  refine tn_put rfl rfl rfl [] (by decide) rfl (hm0 rfl) rfl (q_ixS rfl rfl h770a h770 (el97.trans (congrArg some h770b.symm))) ?_
                  refine tn_put rfl rfl rfl [] (by decide) rfl (hm0 rfl) rfl (q_fieldI rfl fa99_0 rfl) ?_
                  refine tn_put rfl rfl rfl [] (by decide) rfl (hm0 rfl) rfl (q_loadI (v := .one (iC .i64 n771)) rfl sz3 (map_get h770) rfl rfl) ?_
                  refine tn_put rfl rfl rfl [] (by decide) rfl (hm0 rfl) rfl (q_move (v := .one (.p false (Sl.t r98 s2))) rfl) ?_
                  refine tn_put rfl rfl rfl [] (by decide) rfl (hm0 rfl) rfl (q_move (v := .one (iC .i64 n473)) rfl) ?_
                  obtain ⟨⟨n776, n777, n778⟩, h775, h⟩ := bindS h
                  obtain ⟨h775a, h775b, h775⟩ := atS_some h775
                  refine tn_put rfl rfl rfl [] (by decide) rfl (hm0 rfl) rfl (q_ixS rfl rfl h775a h775 (el97.trans (congrArg some h775b.symm))) ?_
                  refine tn_put rfl rfl rfl [] (by decide) rfl (hm0 rfl) rfl (q_fieldI rfl fa99_1 rfl) ?_
                  refine tn_put rfl rfl rfl [] (by decide) rfl (hm0 rfl) rfl (q_loadI (v := .one (iC .i64 n777)) rfl sz3 (map_get h775) rfl rfl) ?_
                  refine tn_put rfl rfl rfl [] (by decide) rfl (hm0 rfl) rfl (q_build (cs := [iC .i64 n771, iC .i64 n777, iC .i64 0]) ty99 rfl pl99 rfl) ?_
                  obtain ⟨⟨n781, n782, n783⟩, h780, h⟩ := bindS h
                  obtain ⟨h780a, h780⟩ := atM_some h780
                  refine tn_put rfl rfl rfl [1] (by decide) rfl (hm0 rfl) rfl (q_ixM (r := r98) 0 rfl rfl h780a h780 rfl el97) ?_
                  refine tn_wr rfl rfl [1] (by decide) rfl (hm0 rfl) (huM h780 rfl) (q_store (e' := rowC r98 (n771, n777, 0)) (es' := ((l749.set n518.toNat (n771, n777, 0))).map (rowC r98)) 0 rfl rfl rfl sz99 rfl (segM (r := r98) rfl h780) (map_get h780) rfl map_set) (q := 1) (segM (r := r98) rfl h780) (congrArg (fun z => List.set _ 1 z) (setM (r := r98) h780)) ?_
                  refine tn_re 6 (v := .one (moC (l749.set n518.toNat (n771, n777, 0)) k751)) (Eq.trans (b := .one (moC l749 k751)) rfl (congrArg D.one moC_set)) ?_
                  refine tn_re 105 (v := .one (moC (l749.set n518.toNat (n771, n777, 0)) k751)) (Eq.trans (b := .one (moC l749 k751)) rfl (congrArg D.one moC_set)) ?_
                  refine tn_end ?_
                  refine E_seq ?_
                  refine L_ops ?_
                  refine ol_put rfl rfl rfl (q_move (v := .one (moC l750 k752)) rfl) ?_
                  refine ol_put rfl rfl rfl (q_move (v := .one (iC .i64 n518)) rfl) ?_
                  refine ol_put rfl rfl rfl (q_loadP (v := .agg [iC .i64 n525, iC .u64 n526]) 0 rfl sz56 rfl rfl rfl rfl) ?_
                  obtain ⟨⟨n786, n787⟩, h785, h⟩ := bindS h
                  obtain ⟨h785a, h785⟩ := atM_some h785
                  refine ol_put rfl rfl rfl (q_ixM (r := r55) 2 rfl rfl h785a h785 rfl el110) ?_
                  refine ol_wr rfl rfl (q_store (e' := rowC r55 (n525, n526)) (es' := ((l750.set n518.toNat (n525, n526))).map (rowC r55)) 2 rfl rfl rfl sz56 rfl (segM (r := r55) rfl h785) (map_get h785) rfl map_set) (congrArg (fun z => List.set _ 2 z) (setM (r := r55) h785)) ?_
                  refine ol_re 7 (v := .one (moC (l750.set n518.toNat (n525, n526)) k752)) (Eq.trans (b := .one (moC l750 k752)) rfl (congrArg D.one moC_set)) ?_
                  refine ol_re 119 (v := .one (moC (l750.set n518.toNat (n525, n526)) k752)) (Eq.trans (b := .one (moC l750 k752)) rfl (congrArg D.one moC_set)) ?_
                  refine ol_end ?_
                  refine E_blkN ?_
                  refine E_seq ?_
                  refine L_ops ?_
                  refine ol_put rfl rfl rfl (q_move (v := .one (iC .i64 n473)) rfl) ?_
                  refine ol_put rfl rfl rfl (q_bin rfl rfl (p_add _ _ _ _ _ _ _) rfl) ?_
                  refine ol_put rfl rfl rfl (q_assign (v := .one (iC .i64 (IntKind.i64.wrap (n473 + 1)))) rfl) ?_
                  refine ol_end ?_
                  obtain rfl := Option.some.inj h
                  exact E_next (k751, k752) (ups_self ⟨rfl, rfl, rfl, rfl, rfl, trivial⟩) [1, 2] (by decide) rfl
                · obtain rfl := Option.some.inj (elimR h)
                  exact J_up (fun s hs => hs)
          · obtain rfl := Option.some.inj (elimR h)
            exact J_up (fun s hs => hs)
      · replace h := ifF c476 h
        refine ol_put rfl rfl rfl (q_bin rfl rfl (p_lss_f _ _ _ _ _ c476) rfl) ?_
        refine ol_end ?_
        refine E_seq ?_
        refine L_condF rfl ?_
        refine L_exit ?_
        refine E_seqX ?_
        obtain rfl := Option.some.inj h
        refine E_out ?_
        exact (E_exit (k474, k475) (ups_self ⟨rfl, rfl, trivial⟩) [0, 1] (by decide) rfl)
    · rintro (⟨l788, l789⟩ | u) h
      · refine J_x (fun kt g => ?_)
        rcases kt with ⟨k790, k791⟩
        replace h := elimL h
        refine E_blkH ?_
        refine E_seq ?_
        refine L_seq ?_
        refine L_seq ?_
        refine L_ops ?_
        refine ol_put rfl rfl rfl (q_assign (v := .one (iC .i64 0)) rfl) ?_
        refine ol_end ?_
        refine E_seq ?_
        refine L_block ?_
        let S5 : ((List (Int × Int × Int)) × Int) → Nat → (Nat → D) → Nat → D := fun a kt g => ups g [(6, .one (moC a.1 kt)), (7, .one (moC l789 k791)), (12, .one (iC .i64 a.2))]
        let SL5 : ((List (Int × Int × Int)) × Int) → Nat → BL := fun a kt => ([moL r55 2 l789 k791, moL r98 3 a.1 kt] : BL)
        let Sx5 : (List (Int × Int × Int)) → Nat → (Nat → D) → Nat → D := fun a kt g => ups g [(6, .one (moC a kt))]
        let SLx5 : (List (Int × Int × Int)) → Nat → BL := fun a kt => ([moL r98 3 a kt] : BL)
        let G5 : ((Sl (Int × Int × Int)) × Int) → Ex → St → Prop := fun u => endQ E1 [.tmp 4, .tmp 5] (.fresh, [.one (Sl.t r98 u.1), .one (iT .i64 u.2)])
        let J5 : ((List (Int × Int × Int)) ⊕ ((Sl (Int × Int × Int)) × Int)) → Ex → St → Prop := JX 145 6 Sx5 SLx5 G5
        refine L_loopS (ref05_Combine_b5 l789) S5 SL5 J5 JX_n (l788, 0) h k790 (ups_self ⟨rfl, rfl, rfl, trivial⟩) [1, 0] (by decide) rfl ?_ ?_
        · rintro ⟨l821, n822⟩ k823 g out h
          change ref05_Combine_b5 l789 (l821, n822) = some out at h
          unfold ref05_Combine_b5 at h
          refine L_seq ?_
          refine L_seq ?_
          refine L_ops ?_
          refine ol_put rfl rfl rfl (q_move (v := .one (iC .i64 n822)) rfl) ?_
          refine ol_put rfl rfl rfl (q_move (v := .one (moC l821 k823)) rfl) ?_
          refine ol_put rfl rfl rfl (q_lenM (l := l821) rfl ty97 rfl rfl rfl rfl) ?_
          by_cases c824 : n822 < ((l821.length : Nat) : Int)
          · replace h := ifT c824 h
            refine ol_put rfl rfl rfl (q_bin rfl rfl (p_lss_t _ _ _ _ _ c824) rfl) ?_
            refine ol_end ?_
            refine E_seq ?_
            refine L_condT rfl ?_
            refine L_skip ?_
            refine E_seq ?_
            refine L_seq ?_
            refine L_block ?_
            refine L_seq ?_
            refine L_ops ?_
            refine ol_put rfl rfl rfl (q_move (v := .one (moC l789 k791)) rfl) ?_
            refine ol_put rfl rfl rfl (q_move (v := .one (iC .i64 n822)) rfl) ?_
            obtain ⟨⟨n827, n828⟩, h826, h⟩ := bindS h
            obtain ⟨h826a, h826⟩ := atM_some h826
            refine ol_put rfl rfl rfl (q_ixM (r := r55) 0 rfl rfl h826a h826 rfl el110) ?_
            refine ol_put rfl rfl rfl (q_loadP (v := .agg [iC .i64 n827, iC .u64 n828]) 0 rfl sz56 (segM (r := r55) rfl h826) (map_get h826) rfl rfl) ?_
            obtain ⟨⟨n830, b831⟩, h829, h⟩ := bindS h
            refine ol_put rfl rfl rfl (q_callF (v := .tup [.one (iC .i64 n830), .one (bC b831)]) (args := [.agg [iC .i64 n827, iC .u64 n828]]) (ref01_Narrow_r (m + 1) h829) rfl rfl (vw_cons (vd_agg (vc_cons vc_v (vc_cons vc_v vc_nil))) vw_nil) rfl rfl) ?_
            refine ol_put rfl rfl rfl (q_move (v := .tup [.one (iC .i64 n830), .one (bC b831)]) rfl) ?_
            refine ol_put rfl rfl rfl (q_ext (v := .one (iC .i64 n830)) rfl rfl) ?_
            refine ol_put rfl rfl rfl (q_ext (v := .one (bC b831)) rfl rfl) ?_
            refine ol_put rfl rfl rfl (q_assign (v := .one (iC .i64 n830)) rfl) ?_
            refine ol_put rfl rfl rfl (q_assign (v := .one (bC b831)) rfl) ?_
            refine ol_end ?_
            refine E_seq ?_
            refine L_seq ?_
            refine L_seq ?_
            refine L_ops ?_
            refine ol_put rfl rfl rfl (q_move (v := .one (bC b831)) rfl) ?_
            rcases b831 with _ | _
            · replace h := ifF (by decide) h
              refine ol_put rfl rfl rfl (q_not rfl) ?_
              refine ol_end ?_
              refine E_seq ?_
              refine L_condT rfl ?_
              refine L_seq ?_
              refine L_ops ?_
              refine ol_put rfl rfl rfl (q_assign (v := .one (.p true (Sl.t r98 (⟨false, 0, []⟩ : Sl (Int × Int × Int))))) rfl) ?_
              refine ol_put rfl rfl rfl (q_assign (v := .one (iC .i64 12)) rfl) ?_
              refine ol_end ?_
              refine E_seq ?_
              refine L_ret ?_
              refine E_seqR ?_
              refine E_blkR ?_
              refine E_seqR ?_
              obtain rfl := Option.some.inj h
              exact E_out (E_up (E_endF (.inr rfl) (res_tmp rfl (res_tmp rfl res_nil)) (vw_cons (vd_one vc_s) (vw_cons (vd_one vc_v) vw_nil)) (fun h hb => own_no2) rfl rfl))
            · replace h := ifT (by decide) h
              refine ol_put rfl rfl rfl (q_not rfl) ?_
              refine ol_end ?_
              refine E_seq ?_
              refine L_condF rfl ?_
              refine L_skip ?_
              refine E_seq ?_
              refine L_ops ?_
              refine ol_put rfl rfl rfl (q_move (v := .one (moC l821 k823)) rfl) ?_
              refine ol_put rfl rfl rfl (q_move (v := .one (iC .i64 n822)) rfl) ?_
              refine ol_put rfl rfl rfl (q_move (v := .one (iC .i64 n830)) rfl) ?_
              obtain ⟨⟨n834, n835, n836⟩, h833, h⟩ := bindS h
              obtain ⟨h833a, h833⟩ := atM_some h833
              refine ol_put rfl rfl rfl (q_ixM (r := r98) 1 rfl rfl h833a h833 rfl el97) ?_
              refine ol_put rfl rfl rfl (q_fieldP rfl fa99_2 rfl) ?_
              refine ol_wr rfl rfl (q_store (e' := rowC r98 (n834, n835, n830)) (es' := ((l821.set n822.toNat (n834, n835, n830))).map (rowC r98)) 1 rfl rfl rfl sz2 rfl (segM (r := r98) rfl h833) (map_get h833) rfl map_set) (congrArg (fun z => List.set _ 1 z) (setM (r := r98) h833)) ?_
              refine ol_re 6 (v := .one (moC (l821.set n822.toNat (n834, n835, n830)) k823)) (Eq.trans (b := .one (moC l821 k823)) rfl (congrArg D.one moC_set)) ?_
              refine ol_re 124 (v := .one (moC (l821.set n822.toNat (n834, n835, n830)) k823)) (Eq.trans (b := .one (moC l821 k823)) rfl (congrArg D.one moC_set)) ?_
              refine ol_re 139 (v := .one (moC (l821.set n822.toNat (n834, n835, n830)) k823)) (Eq.trans (b := .one (moC l821 k823)) rfl (congrArg D.one moC_set)) ?_
              refine ol_end ?_
              refine E_blkN ?_
              refine E_seq ?_
              refine L_ops ?_
              refine ol_put rfl rfl rfl (q_move (v := .one (iC .i64 n822)) rfl) ?_
              refine ol_put rfl rfl rfl (q_bin rfl rfl (p_add _ _ _ _ _ _ _) rfl) ?_
              refine ol_put rfl rfl rfl (q_assign (v := .one (iC .i64 (IntKind.i64.wrap (n822 + 1)))) rfl) ?_
              refine ol_end ?_
              obtain rfl := Option.some.inj h
              exact E_next k823 (ups_self ⟨rfl, rfl, rfl, trivial⟩) [0, 1] (by decide) rfl
          · replace h := ifF c824 h
            refine ol_put rfl rfl rfl (q_bin rfl rfl (p_lss_f _ _ _ _ _ c824) rfl) ?_
            refine ol_end ?_
            refine E_seq ?_
            refine L_condF rfl ?_
            refine L_exit ?_
            refine E_seqX ?_
            obtain rfl := Option.some.inj h
            refine E_out ?_
            exact (E_exit k823 (ups_self ⟨rfl, trivial⟩) [1] (by decide) rfl)
        · rintro (l837 | u) h
          · refine J_x (fun k838 g => ?_)
            replace h := elimL h
            refine E_blkH ?_
            refine E_seq ?_
            refine L_seq ?_
            refine L_ops ?_
            refine ol_put rfl rfl rfl (q_move (v := .one (moC l837 k838)) rfl) ?_
            refine ol_put rfl rfl rfl (q_assign (v := .one (moC l837 k838)) rfl) ?_
            refine ol_put rfl rfl rfl (q_assign (v := .one (iC .i64 0)) rfl) ?_
            refine ol_end ?_
            refine E_seq ?_
            refine L_ret ?_
            obtain rfl := Option.some.inj h
            exact E_endF (.inr rfl) (res_tmp rfl (res_tmp rfl res_nil)) (vw_cons (vd_one (vc_M (r := r98) 0 rfl (fun x h m => rfl))) (vw_cons (vd_one vc_v) vw_nil)) (fun h hb => own_no2) rfl rfl
          · obtain rfl := Option.some.inj (elimR h)
            exact J_up (fun s hs => hs)
      · obtain rfl := Option.some.inj (elimR h)
        exact J_up (fun s hs => hs)
end Ev
end Go.Proofs.Ytioagbejilllfaa
