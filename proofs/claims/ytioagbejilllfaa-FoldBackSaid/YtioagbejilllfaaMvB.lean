/- Sets of places in words, as far as FoldBack needs them: what is listed rises, and lies below the number of places. Over the functions on data. -/
import Derived.Test.YtioagbejilllfaaLf7
import Derived.Test.YtioagbejilllfaaLf8
import Derived.Test.YtioagbejilllfaaMv8
namespace Go.Proofs.Ytioagbejilllfaa
namespace Ev
open Go
set_option linter.unusedVariables false
set_option linter.unusedSimpArgs false
theorem div64 {j : Nat} (hj : j < 1000000) : divO .i64 (j : Int) 64 = some ((j / 64 : Nat) : Int) := by
  unfold divO
  rw [if_pos (by decide), Int.tdiv_eq_ediv_of_nonneg (by omega), wrap64 (by omega) (by omega)]; rfl
theorem mod64 {j : Nat} : modO (j : Int) 64 = some ((j % 64 : Nat) : Int) := by
  unfold modO
  rw [if_pos (by decide), Int.tmod_eq_emod_of_nonneg (by omega)]; rfl
theorem has_eq {s : Sl Int} (hok : okS 1 s) {j : Nat} (hj : j < 64 * s.l.length) (hl : s.l.length ≤ 1000) (h : j / 64 < s.l.length) : ref03_Has s (j : Int) = some (decide (andI .u64 (shrI s.l[j / 64] .u64 ((j % 64 : Nat) : Int)) 1 = 1)) := by
  have hs : shr1 .u64 s.l[j / 64] (IntKind.u64.wrap ((j % 64 : Nat) : Int)) = some (shrI s.l[j / 64] .u64 ((j % 64 : Nat) : Int)) := by
    have : IntKind.u64.wrap ((j % 64 : Nat) : Int) = ((j % 64 : Nat) : Int) := by rw [wrap_u64]; omega
    rw [this]; unfold shr1; rw [if_pos (by omega)]
  unfold ref03_Has
  simp only [div64 (show j < 1000000 by omega), mod64, at_get hok h, hs, Option.bind_some]
  rw [if_pos (by omega), if_pos (by omega)]
  by_cases c : andI .u64 (shrI s.l[j / 64] .u64 ((j % 64 : Nat) : Int)) 1 = 1
  · rw [if_pos c, decide_eq_true c]
  · rw [if_neg c, decide_eq_false c]
theorem shr_small {w : Int} {m k : Nat} (h0 : 0 ≤ w) (h1 : w < 2 ^ m) (hm : m ≤ k) (hk : k < 64) : andI .u64 (shrI w .u64 (k : Int)) 1 = 0 := by
  have hmin : min (k : Int).toNat IntKind.u64.bits = k := by
    have : IntKind.u64.bits = 64 := rfl
    omega
  have h2 : w < 2 ^ k := Int.lt_of_lt_of_le h1 (by exact_mod_cast Nat.pow_le_pow_right (by decide) hm)
  have : shrI w .u64 (k : Int) = 0 := by
    unfold shrI
    rw [hmin, Int.fdiv_eq_ediv_of_nonneg _ (by exact_mod_cast Nat.zero_le _)]
    exact Int.ediv_eq_zero_of_lt h0 h2
  rw [this]; decide
/-- What is listed. -/
theorem list_eq (s : Sl Int) (B : Nat) (hok : okS 1 s) (hl : s.l.length ≤ 1000) (hB : ∀ j : Nat, B ≤ j → j < 64 * s.l.length → ref03_Has s (j : Int) = some false) : ∃ l, ref03_List s = some l ∧ l.length ≤ 64 * s.l.length ∧ (∀ x ∈ l, 0 ≤ x ∧ x < (B : Int)) ∧ l.Pairwise (· < ·) := by
  obtain ⟨q, h1, l, rfl, h2, h3, h4⟩ := loop_up (b := ref03_List_b1 s) (64 * s.l.length) (fun j a => ∃ l, a = (l, (j : Int)) ∧ l.length ≤ j ∧ (∀ x ∈ l, 0 ≤ x ∧ x < (B : Int) ∧ x < (j : Int)) ∧ l.Pairwise (· < ·)) (fun q => ∃ l, q = .inl l ∧ l.length ≤ 64 * s.l.length ∧ (∀ x ∈ l, 0 ≤ x ∧ x < (B : Int)) ∧ l.Pairwise (· < ·))
    (by
      rintro j _ hj ⟨l, rfl, hlj, hx, hp⟩
      have hw : IntKind.i64.wrap (64 * ((s.l.length : Nat) : Int)) = 64 * ((s.l.length : Nat) : Int) := wrap64 (by omega) (by omega)
      have hd : j / 64 < s.l.length := by omega
      have hh := has_eq hok hj hl hd
      have ha : app l [(j : Int)] = some (l ++ [(j : Int)]) := app_ok (by simp; unfold bound; omega)
      by_cases c : andI .u64 (shrI s.l[j / 64] .u64 ((j % 64 : Nat) : Int)) 1 = 1
      · rw [decide_eq_true c] at hh
        have hjB : j < B := by
          apply Classical.byContradiction
          intro hn
          have := hB j (by omega) hj
          rw [hh] at this; simp at this
        simp only [ref03_List_b1, hw, hh, ha, Option.bind_some, if_true]
        rw [if_pos (by omega), w_succ hj (by omega)]
        refine .inl ⟨_, rfl, _, rfl, by simp; omega, fun x hm => ?_, ?_⟩
        · rcases List.mem_append.1 hm with hm | hm
          · have := hx x hm; omega
          · simp only [List.mem_singleton] at hm; subst hm; omega
        · rw [List.pairwise_append]
          refine ⟨hp, by simp, fun a ha b hb => ?_⟩
          simp only [List.mem_singleton] at hb; subst hb
          exact (hx a ha).2.2
      · rw [decide_eq_false c] at hh
        simp only [ref03_List_b1, hw, hh, Option.bind_some, Bool.false_eq_true, if_false]
        rw [if_pos (by omega), w_succ hj (by omega)]
        refine .inl ⟨_, rfl, _, rfl, by omega, fun x hm => ?_, hp⟩
        have := hx x hm; omega)
    (by
      rintro _ ⟨l, rfl, hlj, hx, hp⟩
      have hw : IntKind.i64.wrap (64 * ((s.l.length : Nat) : Int)) = 64 * ((s.l.length : Nat) : Int) := wrap64 (by omega) (by omega)
      simp only [ref03_List_b1, hw]
      exact ⟨_, if_neg (by omega), l, rfl, hlj, fun x hm => by have := hx x hm; exact ⟨this.1, this.2.1⟩, hp⟩) 0 (Nat.zero_le _) ([], 0) ⟨[], rfl, Nat.le_refl _, fun x hx => by simp at hx, List.Pairwise.nil⟩
  unfold ref03_List
  rw [h1]
  exact ⟨l, rfl, h2, h3, h4⟩
/-- A place put into one word. -/
theorem or_lt {w : Int} {m p : Nat} (h0 : 0 ≤ w) (h1 : w < 2 ^ m) (hp : p < m) (hm : m ≤ 63) : 0 ≤ orI .u64 w (shlI 1 .u64 (p : Int)) ∧ orI .u64 w (shlI 1 .u64 (p : Int)) < 2 ^ m := by
  have hmin : min (p : Int).toNat IntKind.u64.bits = p := by
    have : IntKind.u64.bits = 64 := rfl
    omega
  obtain ⟨n, rfl⟩ : ∃ n : Nat, w = (n : Int) := ⟨w.toNat, by omega⟩
  have hn : n < 2 ^ m := by exact_mod_cast h1
  have h64 : (2 : Nat) ^ m ≤ 2 ^ 63 := Nat.pow_le_pow_right (by decide) hm
  have hp2 : (2 : Nat) ^ p < 2 ^ m := Nat.pow_lt_pow_right (by decide) hp
  have e1 : shlI 1 .u64 (p : Int) = ((2 ^ p : Nat) : Int) := by
    unfold shlI
    rw [hmin, wrap_u64]
    have : ((2 ^ p : Nat) : Int) = (2 : Int) ^ p := by push_cast; rfl
    have hlt : 2 ^ p < 18446744073709551616 := by omega
    rw [← this, Int.one_mul]
    exact Int.emod_eq_of_lt (Int.natCast_nonneg _) (by generalize 2 ^ p = q at hlt ⊢; omega)
  have e2 : orI .u64 (n : Int) (shlI 1 .u64 (p : Int)) = ((n ||| 2 ^ p : Nat) : Int) := by
    rw [e1]
    unfold orI
    have hb : (BitVec.ofInt IntKind.u64.bits (n : Int) ||| BitVec.ofInt IntKind.u64.bits ((2 ^ p : Nat) : Int)).toNat = n ||| 2 ^ p := by
      rw [BitVec.toNat_or]
      simp only [BitVec.ofInt_natCast, BitVec.toNat_ofNat]
      have e64 : 2 ^ IntKind.u64.bits = 2 ^ 64 := rfl
      rw [e64, Nat.mod_eq_of_lt (by omega), Nat.mod_eq_of_lt (by omega)]
    rw [hb, wrap_u64]
    have := Nat.or_lt_two_pow hn hp2
    omega
  rw [e2]
  have := Nat.or_lt_two_pow hn hp2
  exact ⟨by omega, by exact_mod_cast this⟩
theorem words_one {n : Int} (h0 : 0 < n) (h1 : n ≤ 59) : ref03_New n = some [0] := by
  unfold ref03_New ref03_words
  rw [if_neg (by omega), if_neg (by omega), wrap64 (show -9223372036854775808 ≤ n + 63 by omega) (by omega)]
  have e : divO .i64 (n + 63) 64 = some 1 := by
    have := div64 (j := n.toNat + 63) (by omega)
    rw [show ((n.toNat + 63 : Nat) : Int) = n + 63 by omega] at this
    rw [this]; congr 1; omega
  rw [e]; rfl
theorem put_one {w : Int} {m p : Nat} (h0 : 0 ≤ w) (h1 : w < 2 ^ m) (hp : p < m) (hm : m ≤ 63) : ∃ w', ref03_Put (mo 1 [w]) (p : Int) = some [w'] ∧ 0 ≤ w' ∧ w' < 2 ^ m := by
  refine ⟨orI .u64 w (shlI 1 .u64 (p : Int)), ?_, or_lt h0 h1 hp hm⟩
  have hd : divO .i64 (p : Int) 64 = some 0 := by
    rw [div64 (show p < 1000000 by omega)]; congr 1; omega
  have hmm : modO (p : Int) 64 = some (p : Int) := by rw [mod64]; congr 1; omega
  have hw : IntKind.u64.wrap (p : Int) = (p : Int) := by rw [wrap_u64]; omega
  have hs : shl1 .u64 1 (p : Int) = some (shlI 1 .u64 (p : Int)) := by unfold shl1; rw [if_pos (by omega)]
  have hat : atS 1 (mo 1 [w]) 0 = some w := mo_at (l := [w]) (j := 0) (by simp)
  have ha : app ([] : List Int) [w] = some [w] := by
    have := app_ok (l := ([] : List Int)) (m := [w]) (by simp; unfold bound; omega)
    simpa using this
  unfold ref03_Put ref03_set
  simp only [mo_l, hd, hmm, hw, hs, hat, ha, Option.bind_some, List.nil_append, if_true]
  rw [if_neg (by omega), if_neg (by simp)]
  rfl
/-- The places of a part that begins at 0, listed. -/
theorem part_list (f : Sl Int) (n : Int) (h0 : 0 ≤ n) (h1 : n ≤ 59) (hok : okS 1 f) (hl : f.l.length ≤ 4) : ∃ w l, ref03_Part f 0 n = some w ∧ ref03_List (mo 1 w) = some l ∧ l.length ≤ 64 ∧ (∀ x ∈ l, 0 ≤ x ∧ x < n) ∧ l.Pairwise (· < ·) := by
  by_cases hn : n ≤ 0
  · obtain ⟨l, e1, e2, e3, e4⟩ := list_eq (mo 1 ([] : List Int)) 0 (ok_mo _) (by simp [mo_l]) (fun j _ h => by simp [mo_l] at h)
    refine ⟨[], l, ?_, e1, by simp [mo_l] at e2; simp [e2], fun x hx => ?_, e4⟩
    · unfold ref03_Part
      rw [if_pos (show n ≤ maxI 0 0 from hn)]
    · have := e3 x hx; omega
  obtain ⟨lf, g1, g2, g3, g4⟩ := list_eq f (64 * f.l.length) hok (by omega) (fun j h1 h2 => absurd h2 (by omega))
  obtain ⟨m, rfl⟩ : ∃ m : Nat, n = (m : Int) := ⟨n.toNat, by omega⟩
  have hmax : maxI 0 0 = 0 := rfl
  have hlf : lf.length ≤ 256 := by omega
  obtain ⟨q, h2, w, rfl, h3, h4⟩ := loop_up (b := ref03_Part_b1 0 (m : Int) lf) lf.length (fun j a => ∃ w, a = ([w], (j : Int)) ∧ 0 ≤ w ∧ w < 2 ^ m) (fun q => ∃ w, q = .inl [w] ∧ 0 ≤ w ∧ w < 2 ^ m)
    (by
      rintro j _ hj ⟨w, rfl, hw0, hw1⟩
      have hx := g3 lf[j] (List.getElem_mem hj)
      simp only [ref03_Part_b1, mo_at hj, Option.bind_some, hmax, w_succ hj (by omega)]
      rw [if_pos (by omega), if_pos (by omega)]
      by_cases c : lf[j] < (m : Int)
      · have hz : IntKind.i64.wrap (lf[j] - 0) = ((lf[j].toNat : Nat) : Int) := by rw [wrap64 (by omega) (by omega)]; omega
        obtain ⟨w', p1, p2, p3⟩ := put_one hw0 hw1 (p := lf[j].toNat) (by omega) (by omega)
        simp only [hz, p1, Option.bind_some]
        rw [if_pos c, if_pos (by omega)]
        exact .inl ⟨_, rfl, w', rfl, p2, p3⟩
      · rw [if_neg c]
        exact .inl ⟨_, rfl, w, rfl, hw0, hw1⟩)
    (by
      rintro _ ⟨w, rfl, hw0, hw1⟩
      simp only [ref03_Part_b1]
      exact ⟨_, if_neg (by omega), w, rfl, hw0, hw1⟩) 0 (Nat.zero_le _) ([0], 0) ⟨0, rfl, by decide, by exact_mod_cast Nat.two_pow_pos m⟩
  obtain ⟨l, e1, e2, e3, e4⟩ := list_eq (mo 1 [w]) m (ok_mo _) (by simp [mo_l]) (fun j j1 j2 => by
    have hj : j < 64 := by simpa [mo_l] using j2
    have hh := has_eq (s := mo 1 [w]) (ok_mo _) (j := j) j2 (by simp [mo_l]) (by simp [mo_l]; omega)
    rw [hh]
    have e0 : j / 64 = 0 := by omega
    have e5 : (mo 1 [w]).l[j / 64]'(by simp [mo_l]; omega) = w := by
      show [w][j / 64]'(by simp; omega) = w
      simp [e0]
    rw [e5, show j % 64 = j by omega, shr_small h3 h4 j1 hj]; rfl)
  refine ⟨[w], l, ?_, e1, by simp [mo_l] at e2; exact e2, e3, e4⟩
  unfold ref03_Part
  rw [hmax, if_neg (by omega), wrap64 (show -9223372036854775808 ≤ (m : Int) - 0 by omega) (by omega), Int.sub_zero, words_one (by omega) (by omega)]
  simp only [Option.bind_some, g1, neL_some (show ([0] : List Int) ≠ [] by simp), h2, Sum.elim_inl]
end Ev
end Go.Proofs.Ytioagbejilllfaa
