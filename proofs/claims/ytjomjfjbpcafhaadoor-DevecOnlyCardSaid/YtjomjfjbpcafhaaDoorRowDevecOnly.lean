/- DevecOnly: whatever comes in, it is true; as a row, and as a tied card. -/
import Derived.OpenShut
import Derived.WideShapes
import Derived.ChangeShapes
import Derived.SevenTiedAt
import Derived.Test.YtjomjfjbpcafhaaDoorLaw
import Derived.Test.YtjomjfjbpcafhaaDoorChecked
import Derived.Test.YtjomjfjbpcafhaaDoorRows
import Derived.Test.YtjomjfjbpcafhaaDoorCards
import Derived.Test.YtjomjfjbpcafhaaDoorTie
import Derived.Test.YtjomjfjbpcafhaaDoorTabOpen
import Derived.Test.YtjomjfjbpcafhaaDoorMwDevecOnly
import Derived.Test.YtjomjfjbpcafhaaDoorLyO
import Derived.Test.YtjomjfjbpcafhaaDoorEv16

namespace Go.Proofs.YtjomjfjbpcafhaaDoor
open Go Go.ChangeShapes Go.WideShapes Go.ChangeAt Go.RowKit Go.Joins Ev
set_option maxRecDepth 100000
theorem devecOnly_tds (tds : List TD) (h : TypDs Tryd.prog [5, 26, 22] tds) : ∃ m n kind, (callers E1 m n).1 7 tds = some (kind, [.one (.v (.bool true))]) := by
  obtain ⟨x0, q0, rfl, g0, h0⟩ := typd_one (d := .int .u8) (by kernel_rfl) rfl h
  obtain ⟨a0, e0, w0⟩ := op5 g0
  obtain rfl := (List.cons.inj e0).1
  obtain ⟨x1, q1, rfl, g1, h1⟩ := typd_one (d := .slice 39) (by kernel_rfl) rfl h0
  obtain ⟨a1, e1, w1⟩ := op26 g1
  obtain rfl := (List.cons.inj e1).1
  obtain ⟨x2, q2, rfl, g2, h2⟩ := typd_one (d := .slice 85) (by kernel_rfl) rfl h1
  obtain ⟨a2, e2, w2⟩ := op22 g2
  obtain rfl := (List.cons.inj e2).1
  obtain rfl := typd_nil h2
  exact law_of (law10_DevecOnly_r 0 (law10_DevecOnly_true a0 w0 a1 w1 a2 w2))
theorem devecOnly_lifted (os : Os) (started : os.Started) (H : Type) (enc : TypeId × Value → H) :
    ReturnsInHanded {} Tryd.checked os 7 .any (fun w args => (Rows.devecOnlySpec.pre enc Tryd.prog Tryd.f7 [] false w args ∧ laidMetH Tryd.prog laidL w) ∧ sizedMet enc Tryd.prog Tryd.f7 (OpenSpec.ofChange Rows.devecOnlySpec) false w args)
      (Rows.devecOnlySpec.post enc Tryd.prog Tryd.f7 false true false false) := by
  refine returnsInHanded_of_change_and (C := Tryd.checked) (X := fun w _ => laidMetH Tryd.prog laidL w) (fun _ _ _ hh h => h.of_heap hh) ownD started (by kernel_rfl) Tryd.func7
    (ChangeSpec.witness_shaped (enc := enc) (C := Tryd.checked) (os := os) (X := fun w _ => laidMetH Tryd.prog laidL w) false (World.doorLaid Tryd.prog 400 os) #[.int .u8 0, .slice none 0 0, .slice none 0 0] 8 rfl (World.shaped_of_RefB (by kernel_rfl) (by kernel_rfl)) (by kernel_rfl) (by kernel_rfl) (by kernel_rfl) (door_met os _)) ?_
  intro W0 base args ds gs before hval0 hW _ hsz hL _
  have hT : LD W0.heap.size W0 := ⟨(tab_of_laid hL).1, tab_of_laid hL⟩
  have hval : ∀ (j : Nat) t v, Tryd.f7.params[j]? = some t → args[j]? = some v → Value.okWide Tryd.prog W0 .any base t v := hval0
  have hW' := hW
  obtain ⟨p, q, hA0, hV, rfl, _, _⟩ := hW
  have hA : DataW.TrodAll enc Tryd.prog W0 0 (fun _ => true) true Tryd.f7.params.toList args.toList ds p := hA0
  rw [Tryd.params7] at hA hval
  refine (law_call (E := E1) E1_ok hT (d := 8) (k := 7) (base := base) (ts := [5, 26, 22]) (vs := args.toList) (fun t ht => ?_) hA (fun j t v h1 h2 => hval j t v (by simpa using h1) (by simpa using h2)) devecOnly_tds).mono fun e W1 ⟨he, hb⟩ => ?_
  · simp only [List.mem_cons, List.not_mem_nil, or_false] at ht
    rcases ht with rfl | rfl | rfl <;> kernel_rfl
  subst he
  exact ⟨_, rfl, law_post laidOutD (by rw [Tryd.params7]; intro t ht; simp only [List.mem_cons, List.not_mem_nil, or_false] at ht; rcases ht with rfl | rfl | rfl <;> exact ⟨by kernel_rfl, of_decide_eq_true (by kernel_rfl)⟩) rfl (by kernel_rfl) Tryd.underlying4
    (fun ds hl => by rw [Tryd.params7] at hl; match ds, hl with | [_d0, _d1, _d2], _ => rfl) hW' hb⟩
theorem devecOnly_holds : Rows.DevecOnlySaid :=
  OpenClaim.holds_of_wide 7 Tryd.f7 rfl rfl rfl rfl rfl rfl rfl ⟨rfl, rfl, rfl, rfl, rfl⟩ rfl rfl rfl rfl rfl (by kernel_rfl) Tryd.func7 (by kernel_rfl)
    (of_decide_eq_true (by kernel_rfl)) (by unfold Func.isWrapper; first | (rw [if_pos (by decide +kernel)]; kernel_rfl) | (rw [if_neg (by decide +kernel)]; exact ⟨rfl, rfl⟩))
    (fun os started H enc _ => devecOnly_lifted os started H enc)
theorem devecOnly_card : Rows.DevecOnlyCardSaid :=
  Claim7.holds_tied_plain_at .later [] [.data] true Rows.devecOnlyCard.stood.harness Rows.devecOnlyCard.stood.looks
    devecOnly_holds (fun _ h => by cases h) (by kernel_rfl) (fun _ h => by cases h) devecOnly_row_tie rfl ⟨rfl, rfl⟩ (by kernel_rfl) rfl
    (fun f fn hf hfn => by
      obtain rfl : f = 7 := Option.some.inj ((show Tryd.prog.funcNamed "fretwork/fretworklaw10.DevecOnly" = some 7 by kernel_rfl).symm.trans hf) |>.symm
      obtain rfl : fn = Tryd.f7 := (Option.some.inj (Tryd.func7.symm.trans hfn)).symm
      exact ⟨by kernel_rfl, fun j t ht => by
        rw [Tryd.params7] at ht
        rcases j with _ | _ | _ | j
        · obtain rfl : t = 5 := by simpa using ht.symm
          exact (show Tryd.prog.wantsStandIn 5 = false by kernel_rfl)
        · obtain rfl : t = 26 := by simpa using ht.symm
          exact (show Tryd.prog.wantsStandIn 26 = false by kernel_rfl)
        · obtain rfl : t = 22 := by simpa using ht.symm
          exact (show Tryd.prog.wantsStandIn 22 = false by kernel_rfl)
        · simp at ht⟩)
    (by kernel_rfl)
end Go.Proofs.YtjomjfjbpcafhaaDoor
