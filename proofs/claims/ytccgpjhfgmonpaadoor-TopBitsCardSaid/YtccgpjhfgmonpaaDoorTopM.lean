/- TopBits: the bytes of a set's words, and back; its places. -/
import Derived.Test.YtccgpjhfgmonpaaDoorOctD3
import Derived.Test.YtccgpjhfgmonpaaDoorFl27
namespace Go.Proofs.YtccgpjhfgmonpaaDoor
open Go.RowKit Go.Sort
set_option linter.unusedVariables false

/-- A word as a signed number, and its bytes behind those of the words before it. -/
def kk (P : Nat → Bool) (i : Nat) : Int := IntKind.i64.wrap ((wd P i : Nat) : Int)
def fb (P : Nat → Bool) (j : Nat) : Int := bt (kk P (j / 8)) (j % 8)
theorem kk_bd (P : Nat → Bool) (i : Nat) : -9223372036854775808 ≤ kk P i ∧ kk P i < 9223372036854775808 := by
  have := wd_lt P i
  unfold kk
  generalize wd P i = W at this
  simp [IntKind.wrap, IntKind.bits, IntKind.signed]
  split <;> omega
theorem kk_back (P : Nat → Bool) (i : Nat) : IntKind.u64.wrap (kk P i) = ((wd P i : Nat) : Int) := by
  have := wd_lt P i
  unfold kk
  generalize wd P i = W at this
  simp [IntKind.wrap, IntKind.bits, IntKind.signed]
  split <;> omega
theorem fb_bd (P : Nat → Bool) (j : Nat) : 0 ≤ fb P j ∧ fb P j ≤ 255 := bt_bd _ _
theorem fb_at (P : Nat → Bool) (i j : Nat) (hj : j < 8) : fb P (8 * i + j) = bt (kk P i) j := by
  unfold fb
  rw [show (8 * i + j) / 8 = i by omega, show (8 * i + j) % 8 = j by omega]
theorem cellsB_congr {F G : Nat → Int} {k : Nat} (h : ∀ i, i < k → F i = G i) : cellsB F k = cellsB G k := by
  unfold cellsB
  refine List.map_congr_left fun i hi => ?_
  rw [h i (List.mem_range.1 hi)]
theorem fb_step (P : Nat → Bool) (i : Nat) : cellsB (cat (fb P) (8 * i) (bt (kk P i))) (8 * i + 8) = cellsB (fb P) (8 * (i + 1)) := by
  rw [show 8 * (i + 1) = 8 * i + 8 by omega]
  refine cellsB_congr fun j hj => ?_
  unfold cat
  split
  · rfl
  · rw [← fb_at P i (j - 8 * i) (by omega), show 8 * i + (j - 8 * i) = j by omega]
theorem cellsW_succ' (F : Nat → Nat) (k : Nat) : cellsW F k ++ [.int .u64 (F k : Nat)] = cellsW F (k + 1) := by
  unfold cellsW
  rw [List.range_succ, List.map_append]
  rfl
/-- Every place asked for is held just when it lies within. -/
theorem has_ofP {k : Int} {L : Nat → Int} {m j : Nat} (hk : k < 300) (hj : j < m) : hasB (ofP k L m) (nw k) (L j) = (decide (0 ≤ L j) && decide (L j < k)) := by
  rw [Bool.eq_iff_iff]
  unfold hasB inB
  simp only [Bool.and_eq_true, decide_eq_true_eq, ofP_iff]
  constructor
  · rintro ⟨⟨h1, h2⟩, i, hi, he, h3, h4, h5⟩
    exact ⟨h1, by omega⟩
  · rintro ⟨h1, h2⟩
    refine ⟨⟨h1, by unfold nw; omega⟩, j, hj, by omega, h1, h2, by omega⟩
theorem right_ofP {k : Int} {L : Nat → Int} {m : Nat} (hk0 : 0 ≤ k) (hk : k < 300) : rightB (ofP k L m) (nw k) k = true := by
  unfold rightB
  refine decide_eq_true ⟨hk0, by omega, rfl, nextV_none fun y hy _ => ?_⟩
  cases h : ofP k L m y
  · rfl
  · obtain ⟨j, _, he, _, h2, _⟩ := ofP_iff.1 h
    omega
theorem cnt_nine : cnt (ofP 9 (fun _ => 3) 2) (64 * nw 9) = 1 := by
  have h : ∀ x, ofP 9 (fun _ => 3) 2 x = decide (x = 3) := fun x => by
    rw [Bool.eq_iff_iff, ofP_iff]
    simp only [decide_eq_true_eq]
    constructor
    · rintro ⟨j, _, he, _⟩; omega
    · intro he; exact ⟨0, by omega, by omega, by decide, by decide, by decide⟩
  rw [show ofP 9 (fun _ => 3) 2 = fun x => decide (x = 3) from funext h]
  decide +kernel
end Go.Proofs.YtccgpjhfgmonpaaDoor
