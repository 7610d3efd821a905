/- A law out of the evaluator. -/
import Derived.Test.YtpcmabdifkoihaaDoorZA17
import Derived.OpenShut
import Derived.WideShapes
import Derived.ChangeShapes
import Derived.SevenTiedAt
import Derived.Test.YtpcmabdifkoihaaDoorZA0
import Derived.Test.YtpcmabdifkoihaaDoorChecked
import Derived.Test.YtpcmabdifkoihaaDoorRows
import Derived.Test.YtpcmabdifkoihaaDoorCards
import Derived.Test.YtpcmabdifkoihaaDoorTie
import Derived.Test.YtpcmabdifkoihaaDoorZA5
import Derived.Test.YtpcmabdifkoihaaDoorZA15
import Derived.Test.YtpcmabdifkoihaaDoorZA3
set_option linter.unusedVariables false
set_option linter.unusedSimpArgs false
namespace Go.Proofs.YtpcmabdifkoihaaDoor
open Go Go.ChangeShapes Go.WideShapes Go.ChangeAt Go.RowKit Go.Joins Ev
set_option maxRecDepth 100000
theorem xm (tds : List TD) (h : nX Tryd.prog [5, 22, 23] tds) : ∃ m n kind, (bS E1 m n).1 3 tds = some (kind, [.one (.v (.bool true))]) := by
 obtain ⟨x0, q0, rfl, g0, h0⟩ := CS (d := .int .u8) (by kernel_rfl) rfl h
 obtain ⟨a0, e0, w0⟩ := op5 g0
 obtain rfl := (List.cons.inj e0).1
 obtain ⟨x1, q1, rfl, g1, h1⟩ := CS (d := .slice 46) (by kernel_rfl) rfl h0
 obtain ⟨a1, e1, w1⟩ := Td g1
 obtain rfl := (List.cons.inj e1).1
 obtain ⟨x2, q2, rfl, g2, h2⟩ := Kh (d := .array 3 3) (by kernel_rfl) rfl h1
 obtain ⟨a2, rfl, w2⟩ := Te g2
 obtain rfl := Ki h2
 exact Pa (pT 0 (nA a0 w0 a1 w1 a2 w2))
theorem rO (os : Os) (started : os.Started) (H : Type) (enc : TypeId × Value → H) :
  ReturnsInHanded {} Tryd.checked os 3 .any (fun w args => (Rows.devecAlikeSpec.pre enc Tryd.prog Tryd.f3 [] false w args ∧ laidMetH Tryd.prog CY w) ∧ sizedMet enc Tryd.prog Tryd.f3 (OpenSpec.ofChange Rows.devecAlikeSpec) false w args)
   (Rows.devecAlikeSpec.post enc Tryd.prog Tryd.f3 false true false false) := by
 refine returnsInHanded_of_change_and (C := Tryd.checked) (X := fun w _ => laidMetH Tryd.prog CY w) (fun _ _ _ hh h => h.of_heap hh) Tp started (by kernel_rfl) Tryd.func3
  (ChangeSpec.witness_shaped (enc := enc) (C := Tryd.checked) (os := os) (X := fun w _ => laidMetH Tryd.prog CY w) false (World.doorLaid Tryd.prog 400 os) #[.int .u8 0, .slice none 0 0, .agg #[.int .i64 0, .int .i64 0, .int .i64 0]] 8 rfl (World.shaped_of_RefB (by kernel_rfl) (by kernel_rfl)) (by kernel_rfl) (by kernel_rfl) (by kernel_rfl) (Kp os _)) ?_
 intro W0 base args ds gs before hval0 hW _ hsz hL _
 have hT : LD W0.heap.size W0 := ⟨(tJ hL).1, tJ hL⟩
 have hval : ∀ (j : Nat) t v, Tryd.f3.params[j]? = some t → args[j]? = some v → Value.okWide Tryd.prog W0 .any base t v := hval0
 have hW' := hW
 obtain ⟨p, q, hA0, hV, rfl, _, _⟩ := hW
 have hA : DataW.TrodAll enc Tryd.prog W0 0 (fun _ => true) true Tryd.f3.params.toList args.toList ds p := hA0
 rw [Tryd.params3] at hA hval
 refine (Jx (E := E1) FP hT (d := 8) (k := 3) (base := base) (ts := [5, 22, 23]) (vs := args.toList) (fun t ht => ?_) hA (fun j t v h1 h2 => hval j t v (by simpa using h1) (by simpa using h2)) xm).mono fun e W1 ⟨he, hb⟩ => ?_
 ·simp only [List.mem_cons, List.not_mem_nil, or_false] at ht
  rcases ht with rfl | rfl | rfl <;> kernel_rfl
 subst he
 exact ⟨_, rfl, Iq Ko (by rw [Tryd.params3]; intro t ht; simp only [List.mem_cons, List.not_mem_nil, or_false] at ht; rcases ht with rfl | rfl | rfl <;> exact ⟨by kernel_rfl, of_decide_eq_true (by kernel_rfl)⟩) rfl (by kernel_rfl) Tryd.underlying4
  (fun ds hl => by rw [Tryd.params3] at hl; match ds, hl with | [_d0, _d1, _d2], _ => rfl) hW' hb⟩
theorem sX : Rows.DevecAlikeSaid :=
 OpenClaim.holds_of_wide 3 Tryd.f3 rfl rfl rfl rfl rfl rfl rfl ⟨rfl, rfl, rfl, rfl, rfl⟩ rfl rfl rfl rfl rfl (by kernel_rfl) Tryd.func3 (by kernel_rfl)
  (of_decide_eq_true (by kernel_rfl)) (by unfold Func.isWrapper; first | (rw [if_pos (by decide +kernel)]; kernel_rfl) | (rw [if_neg (by decide +kernel)]; exact ⟨rfl, rfl⟩))
  (fun os started H enc _ => rO os started H enc)
theorem devecAlike_card : Rows.DevecAlikeCardSaid :=
 Claim7.holds_tied_plain_at .later [] [.data] true Rows.devecAlikeCard.stood.harness Rows.devecAlikeCard.stood.looks
  sX (fun _ h => by cases h) (by kernel_rfl) (fun _ h => by cases h) devecAlike_row_tie rfl ⟨rfl, rfl⟩ (by kernel_rfl) rfl
  (fun f fn hf hfn => by
   obtain rfl : f = 3 := Option.some.inj ((show Tryd.prog.funcNamed "fretwork/fretworklaw10.DevecAlike" = some 3 by kernel_rfl).symm.trans hf) |>.symm
   obtain rfl : fn = Tryd.f3 := (Option.some.inj (Tryd.func3.symm.trans hfn)).symm
   exact ⟨by kernel_rfl, fun j t ht => by
    rw [Tryd.params3] at ht
    rcases j with _ | _ | _ | j
    ·obtain rfl : t = 5 := by simpa using ht.symm
     exact (show Tryd.prog.wantsStandIn 5 = false by kernel_rfl)
    ·obtain rfl : t = 22 := by simpa using ht.symm
     exact (show Tryd.prog.wantsStandIn 22 = false by kernel_rfl)
    ·obtain rfl : t = 23 := by simpa using ht.symm
     exact (show Tryd.prog.wantsStandIn 23 = false by kernel_rfl)
    ·simp at ht⟩)
  (by kernel_rfl)
end Go.Proofs.YtpcmabdifkoihaaDoor
