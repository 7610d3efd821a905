/- A vector made of any items is right. Over the functions on data; no number of a type or function is named. -/
import Derived.Test.YtioagbejilllfaaLf6
import Derived.Test.YtioagbejilllfaaLf7
import Derived.Test.YtioagbejilllfaaMv7
namespace Go.Proofs.Ytioagbejilllfaa
namespace Ev
open Go
set_option linter.unusedVariables false
set_option linter.unusedSimpArgs false
theorem narrow_r (a : Int × Int) : i64r (narrowW a).1 := by
  unfold narrowW
  split
  · exact i64_wrap _
  · unfold i64r; omega
/-- What combined edges are. -/
structure CE (K : Ed → Prop) (c : Nat) (E : List Ed) : Prop where
  few : E.length ≤ c
  rise : Rises E
  ends : ∀ x ∈ E, ∃ y, K y ∧ x.1 = y.1 ∧ x.2.1 = y.2.1
  vals : ∀ x ∈ E, i64r x.2.2
theorem narrow_loop (K : Ed → Prop) (P : Int × Int → Prop) (hP : ∀ a, P a → u64r a.2) (c : Nat) (E : List Ed) (S : List (Int × Int)) (h : CI K P c E S) (hc : c ≤ 5000) : ∃ r, loopO (ref05_Combine_b5 S) (E, 0) = some r ∧ ((r = .inr (⟨false, 0, []⟩, 12) ∧ ∃ x, P x ∧ (narrowW x).2 = false) ∨ ∃ E', r = .inl E' ∧ CE K c E') := by
  have hfew := h.few
  have hlen := h.len
  refine loop_up (b := ref05_Combine_b5 S) E.length (fun j a => ∃ X, a = (X, (j : Int)) ∧ X.length = E.length ∧ (∀ k (h1 : k < X.length) (h2 : k < E.length), X[k].1 = E[k].1 ∧ X[k].2.1 = E[k].2.1) ∧ ∀ k (h1 : k < X.length), k < j → i64r X[k].2.2) (fun r => (r = .inr (⟨false, 0, []⟩, 12) ∧ ∃ x, P x ∧ (narrowW x).2 = false) ∨ ∃ E', r = .inl E' ∧ CE K c E')
    (by
      rintro j _ hj ⟨X, rfl, hX, hk, hv⟩
      have hjX : j < X.length := by omega
      have hjS : j < S.length := by omega
      have hlo := hP _ (h.lo _ (List.getElem_mem hjS))
      simp only [ref05_Combine_b5, mo_at hjS, mo_at hjX, Option.bind_some, w_succ hj (by omega), Int.toNat_natCast]
      have hn : ref01_Narrow (S[j].1, S[j].2) = some (narrowW S[j]) := ref01_Narrow_eq hlo
      rw [if_pos (by omega), hn]
      cases hb : (narrowW S[j]).2 with
      | true =>
        refine .inl ⟨(X.set j (X[j].1, X[j].2.1, (narrowW S[j]).1), ((j + 1 : Nat) : Int)), ?_, _, rfl, by rw [List.length_set]; exact hX, fun k h1 h2 => ?_, fun k h1 hkj => ?_⟩
        · show (if (narrowW S[j]).2 = true then _ else _) = _
          rw [if_pos hb]
        · have h1' : k < X.length := by simpa using h1
          rw [set_get]
          by_cases e : j = k
          · subst e; rw [if_pos rfl]; exact hk j h1' h2
          · rw [if_neg e]; exact hk k h1' h2
        · have h1' : k < X.length := by simpa using h1
          rw [set_get]
          by_cases e : j = k
          · subst e; rw [if_pos rfl]; exact narrow_r _
          · rw [if_neg e]; exact hv k h1' (by omega)
      | false =>
        refine .inr ⟨_, ?_, .inl ⟨rfl, S[j], h.lo _ (List.getElem_mem hjS), hb⟩⟩
        show (if (narrowW S[j]).2 = true then _ else _) = _
        rw [if_neg (by rw [hb]; simp)])
    (by
      rintro _ ⟨X, rfl, hX, hk, hv⟩
      simp only [ref05_Combine_b5]
      refine ⟨_, if_neg (by omega), .inr ⟨X, rfl, by omega, fun i j hi hj hij => ?_, fun x hx => ?_, fun x hx => ?_⟩⟩
      · have e1 := hk i hi (by omega)
        have e2 := hk j hj (by omega)
        rw [below_keys e1.1 e1.2 e2.1 e2.2]
        exact h.rise i j (by omega) (by omega) hij
      · obtain ⟨i, hi, rfl⟩ := List.getElem_of_mem hx
        have e1 := hk i hi (by omega)
        obtain ⟨y, y1, y2, y3⟩ := h.ends _ (List.getElem_mem (show i < E.length by omega))
        exact ⟨y, y1, e1.1.trans y2, e1.2.trans y3⟩
      · obtain ⟨i, hi, rfl⟩ := List.getElem_of_mem hx
        exact hv i hi (by omega)) 0 (Nat.zero_le _) (E, 0) ⟨E, rfl, rfl, fun k _ _ => ⟨rfl, rfl⟩, fun k _ h => absurd h (by omega)⟩
theorem ref05_Combine_eq (r : Int) (s : Sl Ed) (hr : okR r = true) (hok : okS 3 s) (hl : s.l.length ≤ 5000) (K : Ed → Prop) (P : Int × Int → Prop) (hP : SumW r K P) (hK : ∀ x ∈ s.l, K x) : ∃ o, ref05_Combine r s = some o ∧ ((o = (⟨false, 0, []⟩, 12) ∧ ∃ x, P x ∧ (narrowW x).2 = false) ∨ ∃ E, o = (mo 3 E, 0) ∧ CE K s.l.length E) := by
  obtain ⟨E, S, h1, h2⟩ := comb_loop r s hok hl K P hP hK
  obtain ⟨q, h3, h4⟩ := narrow_loop K P hP.lo _ E S h2 hl
  unfold okR at hr
  unfold ref05_Combine
  simp only [ref02_Is_eq, hr, Option.bind_some, if_true, h1, Sum.elim_inl, h3]
  rcases h4 with ⟨rfl, hx⟩ | ⟨E', rfl, h5⟩
  · exact ⟨_, rfl, .inl ⟨rfl, hx⟩⟩
  · exact ⟨_, rfl, .inr ⟨E', rfl, h5⟩⟩
/-- A right vector, of numbers that are numbers. -/
def GoodV (v : Int × Sl It) : Prop := rightB v = true ∧ okS 2 v.2 ∧ ∀ x ∈ v.2.l, i64r x.2
theorem good_nil : GoodV (0, nilS) := ⟨rfl, ok_nil, fun x hx => by simp [nilS] at hx⟩
def KOf (n : Int) (Q : Int → Prop) (y : Ed) : Prop := y.1 = 0 ∧ 0 ≤ y.2.1 ∧ y.2.1 < n ∧ Q y.2.2
theorem ref09_Of_any (r n : Int) (s : Sl It) (hr : okR r = true) (hok : okS 2 s) (h0 : 0 ≤ n) (hn : n ≤ 4096) (hl : s.l.length ≤ 5000) (Q : Int → Prop) (hs : ∀ x ∈ s.l, 0 ≤ x.1 ∧ x.1 < n ∧ Q x.2) (P : Int × Int → Prop) (hP : SumW r (KOf n Q) P) : ∃ v e, ref09_Of r n s = some (v, e) ∧ GoodV v ∧ (v.1 = n ∨ ∃ x, P x ∧ (narrowW x).2 = false) := by
  have hr' := hr
  unfold okR at hr'
  unfold ref09_Of
  simp only [ref02_Is_eq, hr', Option.bind_some, if_true]
  rw [if_neg (by omega), if_neg (by omega)]
  obtain ⟨q, h1, h2⟩ := loop_up (b := ref09_Of_b1 n s) s.l.length (fun j a => a = ((s.l.take j).map (fun x => ((0, x.1, x.2) : Ed)), (j : Int))) (fun q => q = .inl (s.l.map fun x => ((0, x.1, x.2) : Ed)))
    (by
      rintro j _ hj rfl
      have hx := hs _ (List.getElem_mem hj)
      have ha : app ((s.l.take j).map (fun x => ((0, x.1, x.2) : Ed))) [(0, s.l[j].1, s.l[j].2)] = some ((s.l.take j).map (fun x => ((0, x.1, x.2) : Ed)) ++ [(0, s.l[j].1, s.l[j].2)]) := app_ok (by simp; unfold bound; omega)
      simp only [ref09_Of_b1, at_get hok hj, Option.bind_some, w_succ hj (by omega), ha]
      rw [if_pos (by omega), if_neg (by omega), if_neg (by omega)]
      refine .inl ⟨_, rfl, ?_⟩
      rw [List.take_succ_eq_append_getElem hj, List.map_append]; rfl)
    (by
      rintro _ rfl
      exact ⟨_, if_neg (by omega), by rw [List.take_length]⟩) 0 (Nat.zero_le _) ([], 0) rfl
  subst h2
  rw [h1]
  simp only [Option.bind_some, Sum.elim_inl]
  obtain ⟨o, h3, h4⟩ := ref05_Combine_eq r (mo 3 (s.l.map fun x => ((0, x.1, x.2) : Ed))) hr (ok_mo _) (by rw [mo_l]; simpa using hl) (KOf n Q) P hP (fun x hx => by
    rw [mo_l] at hx
    obtain ⟨y, hy, rfl⟩ := List.mem_map.1 hx
    exact ⟨rfl, hs y hy⟩)
  rw [h3]
  rcases h4 with ⟨rfl, hbad⟩ | ⟨E, rfl, hE⟩
  · exact ⟨_, _, rfl, good_nil, .inr hbad⟩
  have hfew : E.length ≤ 5000 := by have := hE.few; rw [mo_l] at this; simp at this; omega
  simp only [Option.bind_some, ne_eq, not_true, if_false]
  obtain ⟨q, h5, h6⟩ := loop_up (b := ref09_Of_b2 (mo 3 E)) E.length (fun j a => a = ((j : Int), (E.take j).map (fun x => ((x.2.1, x.2.2) : It)))) (fun q => q = .inl (E.map fun x => ((x.2.1, x.2.2) : It)))
    (by
      rintro j _ hj rfl
      have ha : app ((E.take j).map (fun x => ((x.2.1, x.2.2) : It))) [(E[j].2.1, E[j].2.2)] = some ((E.take j).map (fun x => ((x.2.1, x.2.2) : It)) ++ [(E[j].2.1, E[j].2.2)]) := app_ok (by simp; unfold bound; omega)
      simp only [ref09_Of_b2, mo_at hj, mo_l, Option.bind_some, w_succ hj (by omega), ha]
      rw [if_pos (by omega)]
      refine .inl ⟨_, rfl, ?_⟩
      rw [List.take_succ_eq_append_getElem hj, List.map_append]; rfl)
    (by
      rintro _ rfl
      simp only [ref09_Of_b2, mo_l]
      exact ⟨_, if_neg (by omega), by rw [List.take_length]⟩) 0 (Nat.zero_le _) (0, []) rfl
  subst h6
  rw [h5]
  refine ⟨_, _, rfl, ⟨?_, ok_mo _, fun x hx => ?_⟩, .inl rfl⟩
  · simp only [rightB, sizeB, mo_l, decide_eq_true h0, decide_eq_true hn, Bool.true_and]
    refine asc_iff'.2 fun j hj => ?_
    have hjE : j < E.length := by simpa using hj
    obtain ⟨y, ⟨y1, y2, y3, _⟩, y4, y5⟩ := hE.ends _ (List.getElem_mem hjE)
    simp only [List.getElem_map]
    refine ⟨by omega, by omega, fun hj0 => ?_⟩
    obtain ⟨z, ⟨z1, z2, z3, _⟩, z4, z5⟩ := hE.ends _ (List.getElem_mem (show j - 1 < E.length by omega))
    have := hE.rise (j - 1) j (by omega) hjE (by omega)
    simp only [belowB, Bool.or_eq_true, Bool.and_eq_true, decide_eq_true_eq] at this
    omega
  · rw [mo_l] at hx
    obtain ⟨y, hy, rfl⟩ := List.mem_map.1 hx
    exact hE.vals y hy
theorem pw_any (r : Int) (K : Ed → Prop) : SumW r K fun a => u64r a.2 := ⟨fun a h => h, fun y hy => ofW_lo _, fun a b ha hb => ringAdd_lo ha hb⟩
theorem ref09_Of_good (r n : Int) (s : Sl It) (hr : okR r = true) (hok : okS 2 s) (h0 : 0 ≤ n) (hn : n ≤ 4096) (hl : s.l.length ≤ 5000) (hs : ∀ x ∈ s.l, 0 ≤ x.1 ∧ x.1 < n) : ∃ v e, ref09_Of r n s = some (v, e) ∧ GoodV v := by
  obtain ⟨v, e, h1, h2, _⟩ := ref09_Of_any r n s hr hok h0 hn hl (fun _ => True) (fun x hx => ⟨(hs x hx).1, (hs x hx).2, trivial⟩) _ (pw_any r _)
  exact ⟨v, e, h1, h2⟩
/-- By the ring that takes the least nothing is too large. -/
def OfN (a : Int × Int) : Prop := ∃ n, i64r n ∧ a = ofW n
theorem pw_min (n : Int) : SumW 1 (KOf n i64r) OfN := ⟨fun a h => by obtain ⟨m, _, rfl⟩ := h; exact ofW_lo _, fun y hy => ⟨_, hy.2.2.2, rfl⟩, fun a b ha hb => by
  unfold ringAdd lessrW
  rw [if_pos (.inl rfl)]
  split
  · exact hb
  · exact ha⟩
theorem ofN_narrow {a : Int × Int} (h : OfN a) : (narrowW a).2 = true := by
  obtain ⟨m, hm, rfl⟩ := h
  unfold narrowW
  have e : IntKind.i64.wrap (ofW m).2 = m := by show IntKind.i64.wrap (IntKind.u64.wrap m) = m; rw [wrap_u64, IntKind.wrap_i64]; unfold i64r at hm; omega
  rw [e, if_pos rfl]
theorem ref09_Of_min (n : Int) (s : Sl It) (hok : okS 2 s) (h0 : 0 ≤ n) (hn : n ≤ 4096) (hl : s.l.length ≤ 5000) (hs : ∀ x ∈ s.l, 0 ≤ x.1 ∧ x.1 < n ∧ i64r x.2) : ∃ v e, ref09_Of 1 n s = some (v, e) ∧ GoodV v ∧ v.1 = n := by
  obtain ⟨v, e, h1, h2, h3⟩ := ref09_Of_any 1 n s (by decide) hok h0 hn hl i64r hs _ (pw_min n)
  refine ⟨v, e, h1, h2, h3.resolve_right ?_⟩
  rintro ⟨x, hx, hb⟩
  rw [ofN_narrow hx] at hb
  simp at hb
theorem law09_Some_good (n : Int) (s : Sl It) (hn : 0 ≤ n ∧ n ≤ 255) (hok : okS 2 s) (hl : s.l.length ≤ 9223372036854775807) : ∃ v, law09_Some n s = some v ∧ GoodV v := by
  unfold law09_Some
  have hw : IntKind.i64.wrap n = n := wrap64 (by omega) (by omega)
  obtain ⟨k, hk, k0, k1⟩ : ∃ k, modO n 60 = some k ∧ 0 ≤ k ∧ k < 60 := by
    refine ⟨n.tmod 60, by unfold modO; rw [if_pos (by omega)], ?_, ?_⟩
    · exact Int.tmod_nonneg _ hn.1
    · exact Int.tmod_lt_of_pos _ (by omega)
  rw [hw, hk]
  simp only [Option.bind_some]
  obtain ⟨q, h1, l, rfl, h2, h3⟩ := loop_up (b := law09_Some_b1 s k) (if 0 < k then min s.l.length 60 else 0) (fun j a => ∃ l, a = (l, (j : Int)) ∧ l.length ≤ j ∧ ∀ x ∈ l, 0 ≤ x.1 ∧ x.1 < k) (fun q => ∃ l, q = .inl l ∧ l.length ≤ 60 ∧ ∀ x ∈ l, 0 ≤ x.1 ∧ x.1 < k)
    (by
      rintro j _ hj ⟨l, rfl, hlj, hlk⟩
      have hk0 : 0 < k := by
        by_cases c : 0 < k
        · exact c
        · rw [if_neg c] at hj; omega
      rw [if_pos hk0] at hj
      have hj1 : j < s.l.length := by omega
      have hj2 : j < 60 := by omega
      simp only [law09_Some_b1, at_get hok hj1, Option.bind_some, w_succ hj1 (by omega)]
      rw [if_pos (by omega), if_pos (by omega), if_pos (by omega)]
      by_cases c : s.l[j].1 ≥ 0
      · rw [if_pos c]
        have hm : modO s.l[j].1 k = some (s.l[j].1.tmod k) := by unfold modO; rw [if_pos (by omega)]
        have ha : app l [(s.l[j].1.tmod k, s.l[j].2)] = some (l ++ [(s.l[j].1.tmod k, s.l[j].2)]) := app_ok (by simp; unfold bound; omega)
        simp only [hm, ha, Option.bind_some]
        refine .inl ⟨_, rfl, _, rfl, by simp; omega, fun x hx => ?_⟩
        rcases List.mem_append.1 hx with hx | hx
        · exact hlk x hx
        · simp only [List.mem_singleton] at hx
          subst hx
          exact ⟨Int.tmod_nonneg _ c, Int.tmod_lt_of_pos _ hk0⟩
      · rw [if_neg c]
        exact .inl ⟨_, rfl, l, rfl, by omega, hlk⟩)
    (by
      rintro _ ⟨l, rfl, hlj, hlk⟩
      have hb : l.length ≤ 60 := by
        by_cases c : 0 < k
        · rw [if_pos c] at hlj; omega
        · rw [if_neg c] at hlj; omega
      refine ⟨.inl l, ?_, l, rfl, hb, hlk⟩
      simp only [law09_Some_b1]
      by_cases c : 0 < k
      · rw [if_pos c]
        by_cases c1 : ((min s.l.length 60 : Nat) : Int) < (s.l.length : Int)
        · rw [if_pos c1, if_neg (by omega)]
        · rw [if_neg c1]
      · rw [if_neg c]
        by_cases c1 : ((0 : Nat) : Int) < (s.l.length : Int)
        · rw [if_pos c1, if_pos (by omega), if_neg (by omega)]
        · rw [if_neg c1]) 0 (Nat.zero_le _) ([], 0) ⟨[], rfl, Nat.le_refl _, fun x hx => by simp at hx⟩
  rw [h1]
  simp only [Option.bind_some, Sum.elim_inl]
  obtain ⟨v, e, g1, g2⟩ := ref09_Of_good 1 k (mo 2 l) (by decide) (ok_mo _) k0 (by omega) (by rw [mo_l]; omega) (fun x hx => h3 x (by rw [mo_l] at hx; exact hx))
  rw [g1]
  exact ⟨_, rfl, g2⟩
end Ev
end Go.Proofs.Ytioagbejilllfaa
