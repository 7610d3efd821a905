/- Package flags: lists of places, of both. -/
import Derived.Test.YtccgpjhfgmonpaaDoorFl10
import Derived.Test.YtccgpjhfgmonpaaDoorFl4
import Derived.Test.YtccgpjhfgmonpaaDoorFlMath4
namespace Go.Proofs.YtccgpjhfgmonpaaDoor
open Go.RowKit Go.Sort
set_option linter.unusedVariables false

/-- Numbers' cells. -/
def cellsN (l : List Nat) : List Value := l.map fun x => .int .i64 (x : Nat)
theorem cellsN_len (l : List Nat) : (cellsN l).length = l.length := by simp [cellsN]
theorem cellsN_of (ys : List Plc) : cellsP ys = cellsN (ys.map (·.1)) := by simp [cellsP, cellsN]
/-- What a list has at an index. -/
def nth (l : List Nat) (i : Nat) : Int := (l.getD i 0 : Nat)
theorem nth_eq {l : List Nat} {i y : Nat} (h : l[i]? = some y) : nth l i = y := by unfold nth; rw [List.getD_eq_getElem?_getD, h]; rfl
theorem nth_pl (p : Nat → Bool) (N i : Nat) : 0 ≤ nth (pl p N) i ∧ nth (pl p N) i ≤ N := by
  unfold nth
  rw [List.getD_eq_getElem?_getD]
  cases h : (pl p N)[i]? with
  | none => simp
  | some y => have := (pl_get h).1; simp; omega

theorem row_rdI {W : World} {base k : Nat} {v : Value} {l : List Nat} (h : W.ownsRow base 3 1 v k (cellsN l)) (hk : l.length = k) (hb : ∀ x ∈ l, x ≤ 9223372036854775807) :
    ∃ a c, v = .slice a k c ∧ k ≤ c ∧ RdI W a k (nth l) ∧ (a = none → c = 0 ∧ k = 0) := by
  have hcell := fun (g cap : Nat) (hv : v = .slice (some ⟨g, 0, none⟩) k cap) i hi => World.ownsRow.cellAt (hv ▸ h) i hi
  obtain ⟨hl, ⟨rfl, h0⟩ | ⟨g, cap, cur, rfl, h1, h2, h3, h4, h5, h6⟩⟩ := h
  · subst h0
    exact ⟨none, 0, rfl, Nat.le_refl _, fun i hi => absurd hi (Nat.not_lt_zero _), fun _ => ⟨rfl, rfl⟩⟩
  · refine ⟨_, cap, rfl, h3, fun i hi => ?_, fun e => by cases e⟩
    have := hcell g cap rfl i (by omega)
    have hm : l[i]? = some (l[i]'(by omega)) := List.getElem?_eq_getElem (by omega)
    refine ⟨_, rfl, (Array.getElem?_eq_some_iff.1 h2).1, ?_, by rw [nth_eq hm]; omega, by rw [nth_eq hm]; have := hb _ (List.mem_of_getElem? hm); omega⟩
    rw [addr0, this, nth_eq hm]
    simp [cellsN, hm]

theorem list_any (a : Option Addr) (n c : Nat) (p : Nat → Bool) (w : World) (hr : RdW w a n (wd p)) (hT : Tab w) (hn : n ≤ 100000) :
    Calls Tryd.prog 32 #[.slice a n c] w fun e w' => ∃ a' c', e = .returned (.slice a' (cnt p (64 * n)) c') ∧ cnt p (64 * n) ≤ c' ∧ RdI w' a' (cnt p (64 * n)) (nth (pl p (64 * n))) ∧ (a' = none → c' = 0 ∧ cnt p (64 * n) = 0) ∧ Below w.heap.size w w' := by
  refine (list_row a n c p w hr hT hn).mono ?_
  rintro e w' ⟨v, ys, rfl, hS, hrow, hb⟩
  rw [cellsN_of, hS] at hrow
  have hl : ys.length = cnt p (64 * n) := by rw [← pl_length, ← hS, List.length_map]
  rw [hl] at hrow
  obtain ⟨a', c', rfl, h1, h2, h3⟩ := row_rdI hrow (pl_length _ _) (fun x hx => by have := (mem_pl.1 hx).1; omega)
  exact ⟨a', c', rfl, h1, h2, h3, hb⟩

set_option maxRecDepth 100000 in
set_option maxHeartbeats 1000000 in
theorem rlist_any (a : Option Addr) (n c : Nat) (p : Nat → Bool) (w : World) (hr : RdW w a n (wd p)) (hn : n ≤ 100000) :
    Calls Tryd.prog 25 #[.slice a n c] w fun e w' => ∃ a' c', e = .returned (.slice a' (cnt p (64 * n)) c') ∧ cnt p (64 * n) ≤ c' ∧ RdI w' a' (cnt p (64 * n)) (nth (pl p (64 * n))) ∧ (a' = none → c' = 0 ∧ cnt p (64 * n) = 0) ∧ Below w.heap.size w w' := by
  obtain ⟨i0, hi0, hz0, hz1, hz2⟩ := info_parts infoInt
  go_enter Tryd.func25, Tryd.ntmps25
  go_wp2_with fail
  go_loopw [3, 4] (fun v y wr => ∃ k : Nat, k ≤ 64 * n ∧ y = .int .i64 k ∧ wr.ownsRow w.heap.size 3 1 v (cnt p k) (cellsN (pl p k)) ∧ Below w.heap.size w wr) (fun _ y _ => 64 * n - (intOf y).toNat)
  case atStart => exact ⟨0, by omega, rfl, World.ownsRow_nil _ _ _ _, Below.refl _ _⟩
  case round =>
    obtain ⟨k, hk, rfl, hown, hB⟩ := hrel
    have hcl := cnt_le p k
    by_cases hlt : k < 64 * n
    · have HH := Lib.hid (rhas_any a n c p k wr (hr.below hB) hn (by omega))
      have hin : inB n (k : Int) = true := decide_eq_true (by omega)
      rw [hasB_t hin, show (k : Int).toNat = k by omega] at HH
      have hk0 : (0 : Int) ≤ (k : Int) := by omega
      have hki : (k : Int) < 64 * (n : Int) := by omega
      have HS := Lib.hid (cnt_succ p k)
      have HP := Lib.hid (pl_succ p k)
      obtain ⟨cc, hcc⟩ : ∃ cc, cc = cnt p k := ⟨_, rfl⟩
      rw [← hcc] at hown hcl HS
      have HCC := Lib.hid hcc
      clear hcc hin
      cases hp : p k
      · rw [hp] at HH HS HP
        go_wp2_with fail
        refine HH.out.mono ?_
        rintro e w' ⟨rfl, rfl⟩
        go_wp2
        refine ⟨?_, by simp [intOf]; omega⟩
        refine ⟨k + 1, by omega, by simp, ?_, hB⟩
        rw [HS.out, HP.out]
        simpa using hown
      · rw [hp] at HH HS HP
        go_wp2_with fail
        refine HH.out.mono ?_
        rintro e w' ⟨rfl, rfl⟩
        go_wp2_with (at_builtin; refine wpList_append_own _ rfl _ _ 23 rfl w.heap.size 3 i0 (.int .i64 0) 1 8 Tryd.underlying23 hi0 hz0 hz1 hz2 rfl (by decide) _ _ _ rfl (hown.alloc _) ⟨wr.heap.size, 0, none⟩ 1 1 [.int .i64 (k : Int)] rfl rfl (cell_one_new _ _ _) (by simp [Value.oneCell']) (by unfold maxLen; omega) (by omega) (by have := hB.size; simp; omega) ?_; intro v' w1 hown' hgrow _)
        refine ⟨?_, by simp [intOf]; omega⟩
        refine ⟨k + 1, by omega, by simp, ?_, ?_⟩
        · rw [HS.out, HP.out]
          simpa [cellsN] using hown'
        · exact (hB.alloc hB.size _).grown hgrow (by have := hB.size; simp; omega) (fun j e => (hown.lt j e).1)
    · obtain rfl : k = 64 * n := by omega
      obtain ⟨a', c', rfl, h1, h2, h3⟩ := row_rdI hown (pl_length _ _) (fun x hx => by have := (mem_pl.1 hx).1; omega)
      have H1 := Lib.hid h1
      have H3 := Lib.hid h3
      clear hown hcl h1 h3
      go_wp2
      go_ret
      exact ⟨a', c', rfl, H1.out, h2, H3.out, hB⟩
end Go.Proofs.YtccgpjhfgmonpaaDoor
