/- Functions of the program as functions on data, and that they are. -/
import Derived.Test.YtjomjfjbpcafhaaDoorEvZ
import Derived.Test.YtjomjfjbpcafhaaDoorLf2
import Derived.Test.YtjomjfjbpcafhaaDoorLy1
namespace Go.Proofs.YtjomjfjbpcafhaaDoor
namespace Ev
open Go
set_option linter.unusedVariables false
set_option linter.unusedSimpArgs false
set_option maxRecDepth 100000
set_option maxHeartbeats 1000000
attribute [local irreducible] OpsL StL TnL WpL EndL
noncomputable def ref03_Flip_b1 (s1 : Sl (Int)) (n2 : Int) (a : List (Int) × Int) : Option ((List (Int) × Int) ⊕ ((List (Int)) ⊕ (List (Int)))) :=
  match a with
  | (l23, n24) => (if n24 < n2 then (if n24 < (IntKind.i64.wrap (64 * ((l23.length : Nat) : Int))) then ((ref03_Has s1 n24).bind fun b29 => (if b29 = true then some (.inl (l23, (IntKind.i64.wrap (n24 + 1)))) else ((ref03_Put (⟨true, 1, l23⟩ : Sl (Int)) n24).bind fun s31 => ((neL s31).bind fun _ => some (.inl (s31, (IntKind.i64.wrap (n24 + 1)))))))) else some (.inr (.inl l23))) else some (.inr (.inl l23)))
noncomputable def ref03_Flip (s1 : Sl (Int)) (n2 : Int) : Option (List (Int)) :=
  ((ref03_New n2).bind fun s4 => ((loopO (ref03_Flip_b1 s1 n2) (s4, 0)).bind (Sum.elim (fun l34 => some l34) (fun u => some u))))
theorem ref03_Flip_r (m : Nat) {s1 : Sl (Int)} {n2 : Int} {out : List (Int)} (h : ref03_Flip s1 n2 = some out) : RunsP E1 (m + 3) 40 [.one (Sl.t r85 s1), .one (iT .i64 n2)] (.own, [.one (.s true 1 ((out).map r85))]) := by
 refine fn_O rfl (by rw [E1_fn]; exact show fiOf Tryd.prog 40 = _ by unfold fiOf; rw [Tryd.func40]; unfold Tryd.f40; rfl) rfl ?_
 dsimp only
 unfold ref03_Flip at h
 refine lS (lO ?_)
 refine pq (qa (.one nC)) ?_
 refine oN ?_
 refine pq (qm (iO n2)) ?_
 obtain ⟨s4, h3, h⟩ := bindS h
 refine ol_new rfl rfl rfl (q_callO (args := [iO n2]) (ref03_New_r (m + 0) h3) rfl rfl (vw_cons (vd_one vc_v) vw_nil) rfl) (fun k5 => ?_)
 refine pq (qa (.one (.own k5 0 (s4).length))) ?_
 refine oE (eS (lS (lS (lO ?_))))
 refine pq (qa (iO 0)) ?_
 refine oE (eS (lB ?_))
 let S1 : (List (Int) × Int) → Nat → (Nat → D) → Nat → D := fun a kt g => ups g [(0, .one (sF r85 s1)), (1, iO n2), (5, .one (.own kt 0 (a.1).length)), (6, .one (iI a.2))]
 let SL1 : (List (Int) × Int) → Nat → BL := fun a kt => ([[(kt, 1, (a.1).map (rowC r85))]] : BL)
 let G1 : (List (Int)) → Ex → St → Prop := fun u => endQ E1 [.tmp 4] (.own, [.one (.s true 1 ((u).map r85))])
 let Sx1 : (List (Int)) → Nat → (Nat → D) → Nat → D := fun a kt g => ups g [(5, .one (.own kt 0 (a).length))]
 let SLx1 : (List (Int)) → Nat → BL := fun a kt => ([[(kt, 1, (a).map (rowC r85))]] : BL)
 let J1 : ((List (Int)) ⊕ (List (Int))) → Ex → St → Prop := JX 29 0 Sx1 SLx1 G1
 refine L_loopS (ref03_Flip_b1 s1 n2) S1 SL1 J1 JX_n (s4, 0) h k5 (ups_self ⟨rfl, rfl, rfl, rfl, trivial⟩) [0] (by decide) rfl ?_ ?_
 rintro ⟨l23, n24⟩ k25 g out h
 change ref03_Flip_b1 s1 n2 (l23, n24) = some out at h
 unfold ref03_Flip_b1 at h
 refine lS (lS (lO ?_))
 refine pq (qm (iO n24)) ?_
 refine pq (qm (iO n2)) ?_
 by_cases c26 : n24 < n2
 replace h := ifT c26 h
 refine pq (qb (p_lss_tZ c26)) ?_
 refine pq (qm bt) ?_
 refine pq (qm (iO n24)) ?_
 refine pq (qm (.one (.own k25 0 (l23).length))) ?_
 refine pq (q_lenO rfl ty22 rfl rfl rfl rfl) ?_
 refine pq (qb p_mulY) ?_
 by_cases c27 : n24 < (IntKind.i64.wrap (64 * ((l23.length : Nat) : Int)))
 replace h := ifT c27 h
 refine pq (qb (p_lss_tZ c27)) ?_
 refine pq (qpt bt) ?_
 refine oE (eS (cT rfl (lK (eS (lS (lB (lS (lO ?_))))))))
 refine pq (qm (.one (sF r85 s1))) ?_
 refine pq (qm (iO n24)) ?_
 obtain ⟨b29, h28, h⟩ := bindS h
 refine pq (qc (bO b29) [.one (sF r85 s1), iO n24] (ref03_Has_r (m + 1) h28) (vw_cons (vd_one vc_s) (vw_cons (vd_one vc_v) vw_nil))) ?_
 rcases b29 with _ | _
 replace h := wF h
 refine pq (q_not rfl) ?_
 refine oE (eS (cT rfl (lO ?_)))
 refine pq (qm (.one (.own k25 0 (l23).length))) ?_
 refine pq (qm (iO n24)) ?_
 obtain ⟨s31, h30, h⟩ := bindS h
 refine ol_callM (r := r85) (l := s31) (args := [.one (.own k25 0 (l23).length), iO n24]) (ref03_Put_r (m + 0) h30) rfl rfl rfl rfl rfl rfl (vw_cons (vd_one (vc_own (r := r85) 0 rfl (fun x h m => rfl))) (vw_cons (vd_one vc_v) vw_nil)) rfl (fun k32 => ?_)
 refine pq (qa (.one (moC s31 k32))) ?_
 refine oE (bN (eS (lO ?_)))
 refine pq (qm (iO n24)) ?_
 refine pq (qb p_addY) ?_
 refine pq (qa (iO (IntKind.i64.wrap (n24 + 1)))) ?_
 refine oE ?_
 obtain ⟨_, h33, h⟩ := bindS h
 refine E_re 5 (v := .one (.own k32 0 (s31).length)) (Eq.trans (b := .one (moC s31 k32)) rfl (congrArg D.one (ne_moC h33).symm)) ?_
 refine E_reS 0 rfl (ne_moL h33).symm ?_
 obtain rfl := sj h
 exact E_next k32 (ups_self ⟨rfl, rfl, rfl, rfl, trivial⟩) [0] (by decide) rfl
 replace h := wT h
 refine pq (q_not rfl) ?_
 refine oE (eS (cF rfl (lK (bN (eS (lO ?_))))))
 refine pq (qm (iO n24)) ?_
 refine pq (qb p_addY) ?_
 refine pq (qa (iO (IntKind.i64.wrap (n24 + 1)))) ?_
 refine oE ?_
 obtain rfl := sj h
 exact E_next k25 (ups_self ⟨rfl, rfl, rfl, rfl, trivial⟩) [0] (by decide) rfl
 replace h := ifF c27 h
 refine pq (qb (p_lss_fZ c27)) ?_
 refine pq (qpt bf) ?_
 refine oE (eS (cF rfl (L_exit ?_)))
 refine E_seqX ?_
 obtain rfl := sj h
 refine E_out ?_
 exact (E_exit k25 (ups_self ⟨rfl, trivial⟩) [0] (by decide) rfl)
 replace h := ifF c26 h
 refine pq (qb (p_lss_fZ c26)) ?_
 refine pq (qm bf) ?_
 iterate 5 refine os ?_
 refine pq (qpf bf) ?_
 refine oE (eS (cF rfl (L_exit ?_)))
 refine E_seqX ?_
 obtain rfl := sj h
 refine E_out ?_
 exact (E_exit k25 (ups_self ⟨rfl, trivial⟩) [0] (by decide) rfl)
 rintro (l34 | u) h
 refine J_x (fun k35 g => ?_)
 replace h := elimL h
 refine bH (eS (lS (lO ?_)))
 refine pq (qm (.one (.own k35 0 (l34).length))) ?_
 refine pq (qa (.one (.own k35 0 (l34).length))) ?_
 refine oE (eS (lR ?_))
 obtain rfl := sj h
 exact E_endO (r := r85) 0 (.inr rfl) (res_tmp rfl res_nil) rfl (fun x h m => rfl) (fun x => rfl)
 obtain rfl := Option.some.inj (elimR h)
 exact J_up (fun s hs => hs)
end Ev
end Go.Proofs.YtjomjfjbpcafhaaDoor
