/- FoldBack, as a function on data, is true at all data. -/
import Derived.Test.YtioagbejilllfaaLw7
import Derived.Test.YtioagbejilllfaaMvB
namespace Go.Proofs.Ytioagbejilllfaa
namespace Ev
open Go
set_option linter.unusedVariables false
set_option linter.unusedSimpArgs false
theorem law09_Some_min (n : Int) (s : Sl It) (hn : 0 ≤ n ∧ n ≤ 255) (hok : okS 2 s) (hl : s.l.length ≤ 9223372036854775807) (hv : ∀ x ∈ s.l, i64r x.2) : ∃ v, law09_Some n s = some v ∧ GoodV v ∧ v.1 = n % 60 := by
  unfold law09_Some
  have hw : IntKind.i64.wrap n = n := wrap64 (by omega) (by omega)
  obtain ⟨k, hk, k0, k1, k2⟩ : ∃ k, modO n 60 = some k ∧ 0 ≤ k ∧ k < 60 ∧ k = n % 60 := by
    refine ⟨n.tmod 60, by unfold modO; rw [if_pos (by omega)], ?_, ?_, Int.tmod_eq_emod_of_nonneg hn.1⟩
    · exact Int.tmod_nonneg _ hn.1
    · exact Int.tmod_lt_of_pos _ (by omega)
  rw [hw, hk]
  simp only [Option.bind_some]
  obtain ⟨q, h1, l, rfl, h2, h3⟩ := loop_up (b := law09_Some_b1 s k) (if 0 < k then min s.l.length 60 else 0) (fun j a => ∃ l, a = (l, (j : Int)) ∧ l.length ≤ j ∧ ∀ x ∈ l, 0 ≤ x.1 ∧ x.1 < k ∧ i64r x.2) (fun q => ∃ l, q = .inl l ∧ l.length ≤ 60 ∧ ∀ x ∈ l, 0 ≤ x.1 ∧ x.1 < k ∧ i64r x.2)
    (by
      rintro j _ hj ⟨l, rfl, hlj, hlk⟩
      have hk0 : 0 < k := by
        by_cases c : 0 < k
        · exact c
        · rw [if_neg c] at hj; omega
      rw [if_pos hk0] at hj
      have hj1 : j < s.l.length := by omega
      have hj2 : j < 60 := by omega
      simp only [law09_Some_b1, at_get hok hj1, Option.bind_some, w_succ hj1 (by omega)]
      rw [if_pos (by omega), if_pos (by omega), if_pos (by omega)]
      by_cases c : s.l[j].1 ≥ 0
      · rw [if_pos c]
        have hm : modO s.l[j].1 k = some (s.l[j].1.tmod k) := by unfold modO; rw [if_pos (by omega)]
        have ha : app l [(s.l[j].1.tmod k, s.l[j].2)] = some (l ++ [(s.l[j].1.tmod k, s.l[j].2)]) := app_ok (by simp; unfold bound; omega)
        simp only [hm, ha, Option.bind_some]
        refine .inl ⟨_, rfl, _, rfl, by simp; omega, fun x hx => ?_⟩
        rcases List.mem_append.1 hx with hx | hx
        · exact hlk x hx
        · simp only [List.mem_singleton] at hx
          subst hx
          exact ⟨Int.tmod_nonneg _ c, Int.tmod_lt_of_pos _ hk0, hv s.l[j] (List.getElem_mem hj1)⟩
      · rw [if_neg c]
        exact .inl ⟨_, rfl, l, rfl, by omega, hlk⟩)
    (by
      rintro _ ⟨l, rfl, hlj, hlk⟩
      have hb : l.length ≤ 60 := by
        by_cases c : 0 < k
        · rw [if_pos c] at hlj; omega
        · rw [if_neg c] at hlj; omega
      refine ⟨.inl l, ?_, l, rfl, hb, hlk⟩
      simp only [law09_Some_b1]
      by_cases c : 0 < k
      · rw [if_pos c]
        by_cases c1 : ((min s.l.length 60 : Nat) : Int) < (s.l.length : Int)
        · rw [if_pos c1, if_neg (by omega)]
        · rw [if_neg c1]
      · rw [if_neg c]
        by_cases c1 : ((0 : Nat) : Int) < (s.l.length : Int)
        · rw [if_pos c1, if_pos (by omega), if_neg (by omega)]
        · rw [if_neg c1]) 0 (Nat.zero_le _) ([], 0) ⟨[], rfl, Nat.le_refl _, fun x hx => by simp at hx⟩
  rw [h1]
  simp only [Option.bind_some, Sum.elim_inl]
  obtain ⟨v, e, g1, g2, g3⟩ := ref09_Of_min k (mo 2 l) (ok_mo _) k0 (by omega) (by rw [mo_l]; omega) (fun x hx => h3 x (by rw [mo_l] at hx; exact hx))
  rw [g1]
  exact ⟨_, rfl, g2, g3.trans k2⟩
theorem gA_at {lv lx : List It} {at' : List Int} (hp : at'.Pairwise (· < ·)) (h0 : ∀ x ∈ at', 0 ≤ x) : ∀ j, j ≤ at'.length → ∀ i (hi : i < at'.length), i < j → gA lv lx at' j at'[i].toNat = getI (i : Int) lx
  | 0, _, i, hi, h => absurd h (by omega)
  | j + 1, hj, i, hi, h => by
    rw [gA_succ (show j < at'.length by omega)]
    unfold updG
    by_cases c : i = j
    · subst c; rw [if_pos rfl]
    · have hlt := List.pairwise_iff_getElem.1 hp i j hi (by omega) (by omega)
      have h1 := h0 _ (List.getElem_mem hi)
      rw [if_neg (by omega)]
      exact gA_at hp h0 j (by omega) i hi (by omega)
theorem gA_same {lv lx : List It} {at' : List Int} (h0 : ∀ x ∈ at', 0 ≤ x) (h : ∀ i (hi : i < at'.length), getI (i : Int) lx = getI at'[i] lv) : ∀ j, j ≤ at'.length → gA lv lx at' j = fun p : Nat => getI (p : Int) lv
  | 0, _ => rfl
  | j + 1, hj => by
    have hjl : j < at'.length := by omega
    rw [gA_succ hjl, gA_same h0 h j (by omega), h j hjl]
    funext q
    unfold updG
    by_cases c : q = at'[j].toNat
    · have := h0 _ (List.getElem_mem hjl)
      rw [if_pos c, show ((q : Nat) : Int) = at'[j] by omega]
    · rw [if_neg c]
theorem pw_len {n : Int} (hn : 0 ≤ n) {l : List Int} (hp : l.Pairwise (· < ·)) (h : ∀ x ∈ l, 0 ≤ x ∧ x < n) : (l.length : Int) ≤ n := by
  have key : ∀ i (hi : i < l.length), (i : Int) ≤ l[i] := by
    intro i
    induction i with
    | zero => intro hi; have := h _ (List.getElem_mem hi); omega
    | succ i ih =>
      intro hi
      have h1 := ih (by omega)
      have h2 := List.pairwise_iff_getElem.1 hp i (i + 1) (by omega) hi (by omega)
      omega
  by_cases c : l.length = 0
  · omega
  · have h1 := key (l.length - 1) (by omega)
    have h2 := h _ (List.getElem_mem (show l.length - 1 < l.length by omega))
    omega
theorem out_none {n : Int} {l : List Int} (h : ∀ x ∈ l, 0 ≤ x ∧ x < n) : outB n l = false := by
  unfold outB
  rw [List.any_eq_false]
  intro x hx
  have := h x hx
  simp; omega
theorem wrap_u8 (n : Int) : IntKind.u8.wrap n = n % 256 := by
  simp [IntKind.wrap, IntKind.signed, IntKind.bits]
theorem u8_in2 {n : Int} (h : inK .u8 n) : 0 ≤ n ∧ n ≤ 255 := by simpa [inK, Lit.wf, IntKind.min, IntKind.max, IntKind.signed, IntKind.bits] using h
theorem FL_eq6 : FL = some true := rfl
theorem slw_vals {s : Sl It} (w : SlW 2 WIt s) : ∀ x ∈ s.l, i64r x.2 := fun x hx => i64r_of (w.2.2.2 x hx).2
theorem law12_FoldBack_true (n : Int) (hn : inK .u8 n) (a : Sl It × Sl It) (w : SlW 2 WIt a.1 ∧ SlW 2 WIt a.2) (f : Sl Int) (wf : SlW 1 (fun x => inK .u64 x) f) : law12_FoldBack n a f = some true := by
  obtain ⟨s, t⟩ := a
  unfold law12_FoldBack
  by_cases hf : ((f.l.length : Nat) : Int) > 4
  · simp only [if_pos hf, FL_eq6, Option.bind_some]
  obtain ⟨⟨m, u⟩, h1, ga, hm⟩ := law09_Some_min n s (u8_in2 hn) w.1.ok w.1.2.2.1 (slw_vals w.1)
  simp only at hm
  have m0 : 0 ≤ m ∧ m ≤ 59 := by omega
  obtain ⟨wd, l, p1, p2, p3, p4, p5⟩ := part_list f m m0.1 m0.2 wf.ok (by omega)
  have hlm := pw_len m0.1 p5 p4
  have hl0 : ∀ x ∈ l, 0 ≤ x := fun x hx => (p4 x hx).1
  have hout := out_none p4
  have hu8 : IntKind.u8.wrap ((l.length : Nat) : Int) = (l.length : Int) := by rw [wrap_u8]; omega
  obtain ⟨⟨k, v⟩, h2, gb, hk⟩ := law09_Some_min (l.length : Int) t (by omega) w.2.ok w.2.2.2.1 (slw_vals w.2)
  simp only at hk
  have hk2 : k = (l.length : Int) := by omega
  subst hk2
  have lu : u.l.length ≤ 4096 := right_len ga.1
  have lv : v.l.length ≤ 4096 := right_len gb.1
  have hok1 : okS 1 (mo 1 l) := ok_mo l
  have hll : (mo 1 l).l.length ≤ 9223372036854775807 := by rw [mo_l]; omega
  -- what is assigned
  obtain ⟨⟨⟨r1, r2⟩, r3⟩, e1, i1⟩ := fold_Assign_eq (m, u) (mo 1 l) ((l.length : Int), v) ga.2.1 (show u.l.length ≤ _ by omega) hok1 hll gb.2.1 (show v.l.length ≤ _ by omega)
  rw [show assignV (m, u) (mo 1 l) ((l.length : Int), v) = .inr (m, vecG m.toNat (gA u.l v.l l l.length)) by
    unfold assignV; rw [sure_id ga.1, sure_id gb.1, mo_l, if_neg (by simp), hout]; simp] at i1
  obtain ⟨j1, j2, j3, j4⟩ := i1
  simp only at j1 j2 j3 j4
  subst j1 j2
  have ra : rightB (r1, r2) = true := right_vecG m0.1 (by omega) j3
  have lr : r2.l.length ≤ 4096 := right_len ra
  have e2 := fold_Select_eq (r1, r2) (mo 1 l) j4 (show r2.l.length ≤ _ by omega) hok1 hll
  have e3 := fold_Select_eq (r1, u) (mo 1 l) ga.2.1 (show u.l.length ≤ _ by omega) hok1 hll
  have sel : ∀ z : Sl It, rightB (r1, z) = true → selectV (r1, z) (mo 1 l) = (((l.length : Int), mo 2 (vecG l.length (selG z.l l))), 0) := fun z hz => by
    unfold selectV; rw [sure_id hz, mo_l, if_neg (by omega), hout]; simp
  rw [sel r2 ra] at e2
  rw [sel u ga.1] at e3
  have rs : ∀ g, rightB ((l.length : Int), mo 2 (vecG l.length g)) = true := fun g => right_vecG (g := g) (by omega) (by omega) (by rw [mo_l, Int.toNat_natCast])
  have ls : ∀ g, (mo 2 (vecG l.length g)).l.length ≤ 4096 := fun g => right_len (rs g)
  obtain ⟨⟨⟨q1, q2⟩, q3⟩, e4, i4⟩ := fold_Assign_eq (r1, u) (mo 1 l) ((l.length : Int), mo 2 (vecG l.length (selG u.l l))) ga.2.1 (show u.l.length ≤ _ by omega) hok1 hll (ok_mo _) (by have := ls (selG u.l l); simp only; omega)
  rw [show assignV (r1, u) (mo 1 l) ((l.length : Int), mo 2 (vecG l.length (selG u.l l))) = .inr (r1, vecG r1.toNat (gA u.l (vecG l.length (selG u.l l)) l l.length)) by
    unfold assignV; rw [sure_id ga.1, sure_id (rs _), mo_l, mo_l, if_neg (by simp), hout]; simp] at i4
  obtain ⟨c1, c2, c3, c4⟩ := i4
  simp only at c1 c2 c3 c4
  subst c1 c2
  -- the same
  have hselG : ∀ (z : List It) i (hi : i < l.length), selG z l i = getI l[i] z := fun z i hi => by
    unfold selG; rw [List.getD_eq_getElem?_getD, List.getElem?_eq_getElem hi]; rfl
  have s1 : ref09_Same ((l.length : Int), mo 2 (vecG l.length (selG r2.l l))) ((l.length : Int), v) = some true := by
    refine same_eq _ _ (ok_mo _) gb.2.1 rfl ?_ (by have := ls (selG r2.l l); simp only; omega)
    show (mo 2 (vecG l.length (selG r2.l l))).l = v.l
    rw [mo_l]
    have hv := right_gath gb.1
    rw [Int.toNat_natCast] at hv
    rw [hv]
    refine gathR_congr fun p _ hp => ?_
    have hp' : p < l.length := by omega
    have hx := p4 _ (List.getElem_mem hp')
    rw [hselG _ p hp', j3]
    have := getI_gath 0 q1.toNat (gA u.l v.l l l.length) l[p].toNat (by omega) (by omega)
    rw [show ((l[p].toNat : Nat) : Int) = l[p] by omega] at this
    unfold vecG
    rw [this]
    exact gA_at p5 hl0 l.length (Nat.le_refl _) p hp' hp'
  have s2 : ref09_Same (q1, q2) (q1, u) = some true := by
    have hq : q2.l = u.l := by
      rw [c3, gA_same hl0 (fun i hi => ?_) l.length (Nat.le_refl _)]
      · exact (right_gath ga.1).symm
      · unfold vecG
        rw [getI_gath 0 l.length _ i (by omega) (by omega), hselG _ i hi]
    refine same_eq _ _ c4 ga.2.1 rfl hq ?_
    show q2.l.length ≤ _
    rw [hq]; omega
  simp only [if_neg hf, h1, p1, p2, hu8, h2, e1, e2, e3, e4, s1, s2, FL_eq6, Option.bind_some, if_true]
end Ev
end Go.Proofs.Ytioagbejilllfaa
