/- FoldPicks, as a function on data, is true at all data. -/
import Derived.Test.YtioagbejilllfaaLf7
import Derived.Test.YtioagbejilllfaaMv6
namespace Go.Proofs.Ytioagbejilllfaa
namespace Ev
open Go
set_option linter.unusedVariables false
set_option linter.unusedSimpArgs false
theorem FL_eq2 : FL = some true := rfl
theorem WS.ok {s : Sl Int} (h : SlW 1 (inK .i64) s) : okS 1 s := h.ok
theorem isA_two {r r' : (Int × Sl It) × Int} {a : Int ⊕ (Int × List It)} (h : isA r a) (h' : isA r' a) (hl : ∀ y, a = .inr y → y.2.length ≤ 9223372036854775807) : ref09_Same r.1 r'.1 = some true ∧ r.2 = r'.2 := by
  cases a with
  | inl e =>
    obtain rfl : r = ((0, nilS), e) := h
    obtain rfl : r' = ((0, nilS), e) := h'
    exact ⟨same_eq _ _ ok_nil ok_nil rfl rfl (by simp [nilS]), rfl⟩
  | inr y =>
    obtain ⟨h1, h2, h3, h4⟩ := h
    obtain ⟨g1, g2, g3, g4⟩ := h'
    exact ⟨same_eq _ _ h4 g4 (h2.trans g2.symm) (h3.trans g3.symm) (by rw [h3]; exact hl y rfl), h1.trans g1.symm⟩
theorem select_same (v : Int × Sl It) (s : Sl Int) : ref09_Same (selectV v s).1 (selectV v s).1 = some true := by
  unfold selectV
  by_cases h1 : (s.l.length : Int) > 4096
  · rw [if_pos h1]; exact same_refl _ ok_nil (by simp [nilS])
  rw [if_neg h1]
  cases outB (sureV v).1 s.l with
  | true => exact same_refl _ ok_nil (by simp [nilS])
  | false =>
    refine same_refl _ (ok_mo _) ?_
    show (mo 2 (vecG _ _)).l.length ≤ _
    rw [mo_l]
    have := gathR_len 0 s.l.length (selG (sureV v).2.l s.l)
    unfold vecG; omega
theorem assign_len (v : Int × Sl It) (s : Sl Int) (x : Int × Sl It) : ∀ y, assignV v s x = .inr y → y.2.length ≤ 9223372036854775807 := by
  intro y hy
  unfold assignV at hy
  split at hy
  · cases hy
  · split at hy
    · cases hy
    · cases hy
      have := gathR_len 0 (sureV v).1.toNat (gA (sureV v).2.l (sureV x).2.l s.l s.l.length)
      have hr := right_size (n := (sureV v).1) (s := (sureV v).2) (sureV_right v)
      show (vecG _ _).length ≤ _
      unfold vecG; omega
/-- The law's end, for the places as they are cut. -/
theorem picks_end (v x : Int × Sl It) (s : Sl Int) (hv : okS 2 v.2) (hvl : v.2.l.length ≤ 60) (hx : okS 2 x.2) (hxl : x.2.l.length ≤ 60) (hs : okS 1 s) (hsl : s.l.length ≤ 9223372036854775807) :
    ∃ a c d, fold_Select v s = some a ∧ ref12_Select v s = some a ∧ fold_Assign v s x = some c ∧ ref12_Assign v s x = some d ∧ ref09_Same a.1 a.1 = some true ∧ ref09_Same c.1 d.1 = some true ∧ c.2 = d.2 := by
  obtain ⟨c, c1, c2⟩ := fold_Assign_eq v s x hv (by omega) hs hsl hx (by omega)
  obtain ⟨d, d1, d2⟩ := ref12_Assign_eq v s x hv (by omega) hs hsl hx (by omega)
  obtain ⟨e1, e2⟩ := isA_two c2 d2 (assign_len v s x)
  exact ⟨_, c, d, fold_Select_eq v s hv (by omega) hs hsl, ref12_Select_eq v s hv (by omega) hs hsl, c1, d1, select_same v s, e1, e2⟩
theorem law12_FoldPicks_true (v : Int × Sl It) (w : WV v) (x : Int × Sl It) (w' : WV x) (s : Sl Int) (ws : SlW 1 (inK .i64) s) : law12_FoldPicks v x s = some true := by
  obtain ⟨n, t⟩ := v
  obtain ⟨m, y⟩ := x
  have hv := few_ok w.ok
  have hvl := few_len (n, t)
  have hx := few_ok w'.ok
  have hxl := few_len (m, y)
  have hs := ws.ok
  have hsl : s.l.length ≤ 9223372036854775807 := Nat.le_trans ws.2.2.1 (by decide)
  unfold law12_FoldPicks
  simp only [law09_Few_eq, Option.bind_some]
  generalize fewV (n, t) = u at hv hvl
  generalize fewV (m, y) = z at hx hxl
  obtain ⟨u1, u2⟩ := u
  obtain ⟨z1, z2⟩ := z
  have key : ∀ s : Sl Int, okS 1 s → s.l.length ≤ 9223372036854775807 → ∃ a c d, fold_Select (u1, u2) s = some a ∧ ref12_Select (u1, u2) s = some a ∧ fold_Assign (u1, u2) s (z1, z2) = some c ∧ ref12_Assign (u1, u2) s (z1, z2) = some d ∧ ref09_Same a.1 a.1 = some true ∧ ref09_Same c.1 d.1 = some true ∧ c.2 = d.2 := fun s h1 h2 => picks_end (u1, u2) (z1, z2) s hv hvl hx hxl h1 h2
  have fin : ∀ s : Sl Int, okS 1 s → s.l.length ≤ 9223372036854775807 → ∃ a1 a2 a3 c1 c2 c3 d1 d2 d3, fold_Select (u1, u2) s = some ((a1, a2), a3) ∧ ref12_Select (u1, u2) s = some ((a1, a2), a3) ∧ fold_Assign (u1, u2) s (z1, z2) = some ((c1, c2), c3) ∧ ref12_Assign (u1, u2) s (z1, z2) = some ((d1, d2), d3) ∧ ref09_Same (a1, a2) (a1, a2) = some true ∧ ref09_Same (c1, c2) (d1, d2) = some true ∧ c3 = d3 := fun s h1 h2 => by
    obtain ⟨⟨⟨a1, a2⟩, a3⟩, ⟨⟨c1, c2⟩, c3⟩, ⟨⟨d1, d2⟩, d3⟩, h⟩ := key s h1 h2
    exact ⟨a1, a2, a3, c1, c2, c3, d1, d2, d3, h⟩
  by_cases k1 : (s.l.length : Int) > 30
  · rw [if_pos k1]
    by_cases k2 : (s.l.length : Int) ≤ 4096
    · rw [if_pos k2]
      have hc : cutS 1 s 0 30 = some ⟨s.nn, s.sz, s.l.take 30⟩ := by
        unfold cutS; rw [if_pos ⟨by omega, by omega, by omega, .inr rfl⟩]; rfl
      have hs' : okS 1 (⟨s.nn, s.sz, s.l.take 30⟩ : Sl Int) := by rcases hs with h | h; exact .inl (by simp [h]); exact .inr h
      obtain ⟨a1, a2, a3, c1, c2, c3, d1, d2, d3, e1, e2, e3, e4, e5, e6, e7⟩ := fin ⟨s.nn, s.sz, s.l.take 30⟩ hs' (by simp; omega)
      simp only [hc, Option.bind_some, e1, e2, e3, e4, e5, e6, e7, FL_eq2, if_true]
    · rw [if_neg k2]
      obtain ⟨a1, a2, a3, c1, c2, c3, d1, d2, d3, e1, e2, e3, e4, e5, e6, e7⟩ := fin s hs hsl
      simp only [Option.bind_some, e1, e2, e3, e4, e5, e6, e7, FL_eq2, if_true]
  · rw [if_neg k1]
    obtain ⟨a1, a2, a3, c1, c2, c3, d1, d2, d3, e1, e2, e3, e4, e5, e6, e7⟩ := fin s hs hsl
    simp only [Option.bind_some, e1, e2, e3, e4, e5, e6, e7, FL_eq2, if_true]
end Ev
end Go.Proofs.Ytioagbejilllfaa
