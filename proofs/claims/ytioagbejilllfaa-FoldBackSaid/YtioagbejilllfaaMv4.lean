/- Tables of places, and vectors made of them. Over lists; no number of a type or function is named. -/
import Derived.Test.YtioagbejilllfaaMv3
namespace Go.Proofs.Ytioagbejilllfaa
namespace Ev
open Go
set_option linter.unusedVariables false
set_option linter.unusedSimpArgs false
/-- What stands at a place. -/
def getI (p : Int) : List It → Option Int
  | [] => none
  | x :: l => if x.1 = p then some x.2 else getI p l
def encO : Option Int → Int × Bool
  | some x => (x, true)
  | none => (0, false)
def itemO (p : Nat) : Option Int → Option It
  | some x => some ((p : Int), x)
  | none => none
/-- A table of so many places. -/
def tblG (n : Nat) (g : Nat → Option Int) : List (Int × Bool) := (List.range n).map fun p => encO (g p)
def updG (g : Nat → Option Int) (p : Nat) (v : Option Int) : Nat → Option Int := fun q => if q = p then v else g q
theorem tblG_len (n : Nat) (g : Nat → Option Int) : (tblG n g).length = n := by simp [tblG]
theorem tblG_get {n : Nat} {g : Nat → Option Int} {p : Nat} (hp : p < n) : (tblG n g)[p]'(by rw [tblG_len]; exact hp) = encO (g p) := by simp [tblG]
theorem tblG_set (n : Nat) (g : Nat → Option Int) (p : Nat) (v : Option Int) : (tblG n g).set p (encO v) = tblG n (updG g p v) := by
  refine List.ext_getElem (by simp [tblG]) fun i h1 h2 => ?_
  have hi : i < n := by simpa [tblG] using h2
  rw [List.getElem_set, tblG_get (g := updG g p v) hi, tblG_get hi]
  unfold updG
  by_cases h : p = i
  · rw [if_pos h, if_pos h.symm]
  · rw [if_neg h, if_neg (fun e => h e.symm)]
theorem tblG_none (n : Nat) : List.replicate n ((0, false) : Int × Bool) = tblG n fun _ => none := by
  refine List.ext_getElem (by simp [tblG]) fun i h1 h2 => ?_
  have hi : i < n := by simpa [tblG] using h2
  rw [tblG_get hi]; simp [encO]
theorem tblG_congr {n : Nat} {g g' : Nat → Option Int} (h : ∀ p, p < n → g p = g' p) : tblG n g = tblG n g' := by
  unfold tblG
  refine List.map_congr_left fun p hp => ?_
  rw [h p (by simpa using hp)]
/-- What a table has, from a place on. -/
def gathR (a k : Nat) (g : Nat → Option Int) : List It := (List.range' a k).filterMap fun p => itemO p (g p)
theorem gathR_zero (a : Nat) (g : Nat → Option Int) : gathR a 0 g = [] := rfl
theorem gathR_succ (a k : Nat) (g : Nat → Option Int) : gathR a (k + 1) g = (match g a with | some x => [((a : Int), x)] | none => []) ++ gathR (a + 1) k g := by
  unfold gathR
  rw [List.range'_succ, List.filterMap_cons]
  cases h : g a <;> simp [itemO, h]
theorem gathR_app (a k m : Nat) (g : Nat → Option Int) : gathR a (k + m) g = gathR a k g ++ gathR (a + k) m g := by
  unfold gathR
  rw [← List.range'_append_1, List.filterMap_append]
theorem gathR_last (a k : Nat) (g : Nat → Option Int) : gathR a (k + 1) g = gathR a k g ++ (match g (a + k) with | some x => [(((a + k : Nat) : Int), x)] | none => []) := by
  rw [gathR_app, gathR_succ, gathR_zero, List.append_nil]
theorem gathR_congr {a k : Nat} {g g' : Nat → Option Int} (h : ∀ p, a ≤ p → p < a + k → g p = g' p) : gathR a k g = gathR a k g' := by
  induction k generalizing a with
  | zero => rfl
  | succ k ih => rw [gathR_succ, gathR_succ, h a (Nat.le_refl _) (by omega), ih fun p h1 h2 => h p (by omega) (by omega)]
theorem gathR_none {a k : Nat} {g : Nat → Option Int} (h : ∀ p, a ≤ p → p < a + k → g p = none) : gathR a k g = [] := by
  induction k generalizing a with
  | zero => rfl
  | succ k ih => rw [gathR_succ, h a (Nat.le_refl _) (by omega), ih fun p h1 h2 => h p (by omega) (by omega)]; rfl
theorem gathR_mem {a k : Nat} {g : Nat → Option Int} {x : It} (h : x ∈ gathR a k g) : ∃ p : Nat, a ≤ p ∧ p < a + k ∧ x.1 = (p : Int) ∧ g p = some x.2 := by
  unfold gathR at h
  obtain ⟨p, hp, he⟩ := List.mem_filterMap.1 h
  rw [List.mem_range'_1] at hp
  cases hg : g p with
  | none => rw [hg] at he; simp [itemO] at he
  | some v => rw [hg] at he; simp only [itemO, Option.some.injEq] at he; subst he; exact ⟨p, hp.1, hp.2, rfl, hg⟩
theorem gathR_len (a k : Nat) (g : Nat → Option Int) : (gathR a k g).length ≤ k := by
  have := List.length_filterMap_le (fun p => itemO p (g p)) (List.range' a k)
  simpa [gathR] using this
theorem gathR_asc (a k : Nat) (g : Nat → Option Int) (b n : Int) (hb : b < (a : Int)) (hn : ((a + k : Nat) : Int) ≤ n) : asc b n (gathR a k g) = true := by
  induction k generalizing a b with
  | zero => rfl
  | succ k ih =>
    rw [gathR_succ]
    cases h : g a with
    | none => exact ih (a + 1) b (by omega) (by omega)
    | some v =>
      show (decide (b < (a : Int)) && decide ((a : Int) < n) && asc (a : Int) n (gathR (a + 1) k g)) = true
      rw [decide_eq_true hb, decide_eq_true (by omega), ih (a + 1) a (by omega) (by omega)]; rfl
theorem getI_none {p : Int} : ∀ {l : List It}, (∀ x ∈ l, x.1 ≠ p) → getI p l = none
  | [], _ => rfl
  | x :: l, h => by
    unfold getI
    rw [if_neg (h x List.mem_cons_self)]
    exact getI_none fun y hy => h y (List.mem_cons_of_mem _ hy)
theorem getI_gath (a k : Nat) (g : Nat → Option Int) (p : Nat) (h1 : a ≤ p) (h2 : p < a + k) : getI (p : Int) (gathR a k g) = g p := by
  induction k generalizing a with
  | zero => omega
  | succ k ih =>
    rw [gathR_succ]
    by_cases hp : a = p
    · subst hp
      cases h : g a with
      | some v => simp [getI]
      | none =>
        refine getI_none fun x hx => ?_
        obtain ⟨q, q1, q2, q3, q4⟩ := gathR_mem (by simpa using hx)
        omega
    · have := ih (a + 1) (by omega) (by omega)
      cases h : g a with
      | some v => simp only [List.singleton_append, getI]; rw [if_neg (by omega)]; exact this
      | none => exact this
/-- Rising items are what a table of them has. -/
theorem asc_gath {n : Int} : ∀ {l : List It} {a k : Nat}, asc ((a : Int) - 1) n l = true → ((a + k : Nat) : Int) = n → l = gathR a k fun p => getI (p : Int) l
  | [], a, k, h, hn => (gathR_none fun p _ _ => rfl).symm
  | x :: l, a, k, h, hn => by
    simp only [asc, Bool.and_eq_true, decide_eq_true_eq] at h
    obtain ⟨⟨h1, h2⟩, h3⟩ := h
    obtain ⟨q, hq⟩ : ∃ q : Nat, x.1 = (q : Int) := ⟨x.1.toNat, by omega⟩
    have hk : k = (q - a) + ((k - (q - a) - 1) + 1) := by omega
    rw [hk, gathR_app, gathR_succ]
    have e1 : gathR a (q - a) (fun p => getI (p : Int) (x :: l)) = [] := gathR_none fun p p1 p2 => by
      refine getI_none fun y hy => ?_
      rcases List.mem_cons.1 hy with rfl | hy
      · omega
      · have := asc_lt h3 y hy; omega
    have ea : a + (q - a) = q := by omega
    have e2 : getI ((a + (q - a) : Nat) : Int) (x :: l) = some x.2 := by unfold getI; rw [if_pos (by omega)]
    have h3' : asc (((q + 1 : Nat) : Int) - 1) n l = true := by rw [hq] at h3; simpa using h3
    have ih := asc_gath (k := k - (q - a) - 1) h3' (by omega)
    rw [e1, e2, ea]
    have e3 : gathR (q + 1) (k - (q - a) - 1) (fun p => getI (p : Int) (x :: l)) = l := by
      rw [gathR_congr (g' := fun p => getI (p : Int) l) fun p p1 p2 => by
        show getI (p : Int) (x :: l) = _
        rw [getI, if_neg (by omega)]]
      exact ih.symm
    rw [e3, List.nil_append, ← hq]; rfl
/-- A vector of a table. -/
def vecG (n : Nat) (g : Nat → Option Int) : List It := gathR 0 n g
theorem right_gath {n : Int} {s : Sl It} (h : rightB (n, s) = true) : s.l = vecG n.toNat fun p => getI (p : Int) s.l := by
  simp only [rightB, sizeB, Bool.and_eq_true, decide_eq_true_eq] at h
  exact asc_gath (a := 0) (by simpa using h.2) (by omega)
theorem right_vecG {n : Int} {s : Sl It} {g : Nat → Option Int} (h0 : 0 ≤ n) (h1 : n ≤ 4096) (hs : s.l = vecG n.toNat g) : rightB (n, s) = true := by
  simp only [rightB, sizeB, hs, decide_eq_true h0, decide_eq_true h1, Bool.true_and]
  exact gathR_asc _ _ _ _ _ (by omega) (by omega)
/-- With something put at a place. -/
theorem vecG_put {n p : Nat} (hp : p < n) (g : Nat → Option Int) (v : Option Int) : vecG n (updG g p v) = (vecG n g).filter (fun x => decide (x.1 < (p : Int))) ++ ((match v with | some x => [((p : Int), x)] | none => []) ++ (vecG n g).filter (fun x => decide ((p : Int) < x.1))) := by
  have hn : n = p + ((n - p - 1) + 1) := by omega
  have split : ∀ g' : Nat → Option Int, vecG n g' = gathR 0 p g' ++ ((match g' p with | some x => [((p : Int), x)] | none => []) ++ gathR (p + 1) (n - p - 1) g') := fun g' => by
    show gathR 0 n g' = _
    rw [hn, gathR_app, gathR_succ, Nat.zero_add, show p + (n - p - 1 + 1) - p - 1 = n - p - 1 by omega]
  rw [split (updG g p v), split g]
  have a1 : gathR 0 p (updG g p v) = gathR 0 p g := gathR_congr fun q _ q2 => by unfold updG; rw [if_neg (by omega)]
  have a2 : gathR (p + 1) (n - p - 1) (updG g p v) = gathR (p + 1) (n - p - 1) g := gathR_congr fun q q1 _ => by unfold updG; rw [if_neg (by omega)]
  have a3 : updG g p v p = v := by unfold updG; rw [if_pos rfl]
  have m1 : ∀ x ∈ gathR 0 p g, x.1 < (p : Int) := fun x hx => by obtain ⟨q, _, q2, q3, _⟩ := gathR_mem hx; omega
  have m2 : ∀ x ∈ gathR (p + 1) (n - p - 1) g, (p : Int) < x.1 := fun x hx => by obtain ⟨q, q1, _, q3, _⟩ := gathR_mem hx; omega
  have f1 : (gathR 0 p g).filter (fun x => decide (x.1 < (p : Int))) = gathR 0 p g := List.filter_eq_self.2 fun x hx => by simpa using m1 x hx
  have f2 : (gathR 0 p g).filter (fun x => decide ((p : Int) < x.1)) = [] := List.filter_eq_nil_iff.2 fun x hx => by have := m1 x hx; simp; omega
  have f3 : (gathR (p + 1) (n - p - 1) g).filter (fun x => decide (x.1 < (p : Int))) = [] := List.filter_eq_nil_iff.2 fun x hx => by have := m2 x hx; simp; omega
  have f4 : (gathR (p + 1) (n - p - 1) g).filter (fun x => decide ((p : Int) < x.1)) = gathR (p + 1) (n - p - 1) g := List.filter_eq_self.2 fun x hx => by simpa using m2 x hx
  rw [a1, a2, a3, List.filter_append, List.filter_append, List.filter_append, List.filter_append, f1, f2, f3, f4]
  cases g p <;> simp
end Ev
end Go.Proofs.Ytioagbejilllfaa
