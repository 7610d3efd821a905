/- What combining edges comes to: it rises; so a vector that is made of items is right. Over the functions on data; no number of a type or function is named. -/
import Derived.Test.YtioagbejilllfaaLf6
import Derived.Test.YtioagbejilllfaaLf7
import Derived.Test.YtioagbejilllfaaMv6
namespace Go.Proofs.Ytioagbejilllfaa
namespace Ev
open Go
set_option linter.unusedVariables false
set_option linter.unusedSimpArgs false
abbrev Ed := Int × Int × Int
def belowB (a b : Ed) : Bool := decide (a.1 < b.1) || (decide (a.1 = b.1) && decide (a.2.1 < b.2.1))
theorem below_eq (a b : Ed) : ref05_below a b = some (belowB a b) := by
  obtain ⟨a1, a2, a3⟩ := a; obtain ⟨b1, b2, b3⟩ := b
  unfold ref05_below belowB
  simp only
  by_cases h1 : a1 < b1
  · simp [h1]
  · by_cases h2 : a1 = b1
    · by_cases h3 : a2 < b2
      · simp [h2, h3]
      · simp [h2, h3]
    · simp [h1, h2]
/-- Edges rise by their ends. -/
def Rises (l : List Ed) : Prop := ∀ i j (hi : i < l.length) (hj : j < l.length), i < j → belowB l[i] l[j] = true
theorem below_trans {a b c : Ed} (h1 : belowB a b = true) (h2 : belowB b c = true) : belowB a c = true := by
  simp only [belowB, Bool.or_eq_true, Bool.and_eq_true, decide_eq_true_eq] at *; omega
theorem below_total {a b : Ed} (h1 : belowB a b = false) (h2 : belowB b a = false) : a.1 = b.1 ∧ a.2.1 = b.2.1 := by
  simp only [belowB, Bool.or_eq_false_iff, Bool.and_eq_false_iff, decide_eq_false_iff_not] at *; omega
theorem mo_at {α : Type} {w : Nat} {l : List α} {j : Nat} (hj : j < l.length) : atS w (mo w l) (j : Int) = some l[j] := by
  have := at_get (s := mo w l) (w := w) (ok_mo l) (j := j) (by rw [mo_l]; exact hj)
  rw [this]
  congr 1
  simp only [mo_l]
/-- A list with something put in. -/
def insAt {α : Type} (l : List α) (i : Nat) (x : α) : List α := l.take i ++ x :: l.drop i
theorem insAt_len {α : Type} {l : List α} {i : Nat} {x : α} (hi : i ≤ l.length) : (insAt l i x).length = l.length + 1 := by unfold insAt; simp; omega
theorem ins_get {α : Type} {l : List α} {i k : Nat} {x : α} (hi : i ≤ l.length) (hk : k < (l.take i ++ x :: l.drop i).length) (hk2 : k < l.length + 1) : (l.take i ++ x :: l.drop i)[k] = if h1 : k < i then l[k]'(by omega) else if h2 : k = i then x else l[k - 1]'(by omega) := by
  rw [List.getElem_append]
  have ht : (l.take i).length = i := by simp; omega
  by_cases h1 : k < i
  · rw [dif_pos (by omega), dif_pos h1, List.getElem_take]
  · rw [dif_neg (by omega), dif_neg h1]
    by_cases h2 : k = i
    · subst h2; simp [ht]
    · rw [dif_neg h2]
      obtain ⟨m, hm⟩ : ∃ m, k - (l.take i).length = m + 1 := ⟨k - i - 1, by omega⟩
      simp only [hm, List.getElem_cons_succ, List.getElem_drop]
      congr 1; omega
theorem insAt_get {α : Type} {l : List α} {i k : Nat} {x : α} (hi : i ≤ l.length) (hk : k < (insAt l i x).length) : (insAt l i x)[k] = if h1 : k < i then l[k]'(by omega) else if h2 : k = i then x else l[k - 1]'(by rw [insAt_len hi] at hk; omega) := ins_get hi hk (by rw [insAt_len hi] at hk; exact hk)
/-- What moving elements up comes to. -/
theorem shift_end {α : Type} {l X : List α} {z x : α} {i : Nat} (hi : i ≤ l.length) (hl : X.length = l.length + 1) (h : ∀ k (hk : k < X.length), X[k] = if h0 : k ≤ i then (l ++ [z])[k]'(by simp; omega) else (l ++ [z])[k - 1]'(by simp; omega)) : X.set i x = insAt l i x := by
  refine List.ext_getElem (by rw [List.length_set, hl, insAt_len hi]) fun k h1 h2 => ?_
  have hk : k < X.length := by simpa using h1
  rw [insAt_get hi, List.getElem_set]
  by_cases c1 : i = k
  · subst c1; rw [if_pos rfl, dif_neg (by omega), dif_pos rfl]
  rw [if_neg c1, h k hk]
  by_cases c2 : k < i
  · rw [dif_pos (by omega), dif_pos c2, List.getElem_append_left (by omega)]
  · rw [dif_neg (by omega), dif_neg c2, dif_neg (fun e => c1 e.symm), List.getElem_append_left (by omega)]
theorem set_get {α : Type} {X : List α} {j k : Nat} {y : α} (hk : k < (X.set j y).length) : (X.set j y)[k] = if j = k then y else X[k]'(by simpa using hk) := List.getElem_set hk
/-- One step of moving up keeps what is known. -/
theorem shift_step {α : Type} {A X : List α} {j : Nat} (hX : X.length = A.length) (hj : j < X.length) (hj0 : 0 < j) (h : ∀ k (hk : k < X.length), X[k] = if h0 : k ≤ j then A[k]'(by omega) else A[k - 1]'(by omega)) :
    ∀ k (hk : k < (X.set j (X[j - 1]'(by omega))).length), (X.set j (X[j - 1]'(by omega)))[k] = if h0 : k ≤ j - 1 then A[k]'(by rw [List.length_set] at hk; omega) else A[k - 1]'(by rw [List.length_set] at hk; omega) := by
  intro k hk
  have hk' : k < X.length := by simpa using hk
  rw [set_get]
  by_cases c : j = k
  · subst c
    have e := h (j - 1) (by omega)
    rw [dif_pos (by omega)] at e
    rw [if_pos rfl, dif_neg (by omega)]
    exact e
  · rw [if_neg c, h k hk']
    by_cases c2 : k ≤ j
    · rw [dif_pos c2, dif_pos (by omega)]
    · rw [dif_neg c2, dif_neg (by omega)]
def ShI {α : Type} (A X : List α) (j : Nat) : Prop := X.length = A.length ∧ ∀ k (h1 : k < X.length) (h2 : k < A.length), X[k] = if h0 : k ≤ j then A[k] else A[k - 1]'(by omega)
theorem loop_down {A R : Type} {b : A → Option (A ⊕ R)} (at' : Nat) (I : Nat → A → Prop) (Q : R → Prop) (hs : ∀ j a, at' < j → I j a → ∃ a', b a = some (.inl a') ∧ I (j - 1) a') (he : ∀ a, I at' a → ∃ r, b a = some (.inr r) ∧ Q r) (j : Nat) (hj : at' ≤ j) (a : A) (ha : I j a) : ∃ r, loopO b a = some r ∧ Q r := by
  obtain ⟨k, rfl⟩ : ∃ k, j = at' + k := ⟨j - at', by omega⟩
  induction k generalizing a with
  | zero => obtain ⟨r, h1, h2⟩ := he a ha; exact ⟨r, loopO_done h1, h2⟩
  | succ k ih =>
    obtain ⟨a', h1, h2⟩ := hs (at' + (k + 1)) a (by omega) ha
    obtain ⟨r, h3, h4⟩ := ih a' (by omega) (by simpa using h2)
    exact ⟨r, (loopO_step h1).trans h3, h4⟩
theorem ShI.step {α : Type} {A X : List α} {j : Nat} (h : ShI A X j) (hj : j < X.length) (hj0 : 0 < j) : ShI A (X.set j (X[j - 1]'(by omega))) (j - 1) := by
  obtain ⟨h1, h2⟩ := h
  refine ⟨by rw [List.length_set]; exact h1, fun k k1 k2 => ?_⟩
  exact shift_step h1 hj hj0 (fun k hk => h2 k hk (by omega)) k k1
theorem w_pred {j : Nat} (h : 0 < j) (hn : j ≤ 9223372036854775807) : IntKind.i64.wrap ((j : Int) - 1) = ((j - 1 : Nat) : Int) := by rw [wrap64 (by omega) (by omega)]; omega
theorem shift3 (at' : Nat) (A : List Ed) (B : List (Int × Int)) (h0 : 0 < A.length) (hAB : A.length = B.length) (hl : A.length ≤ 1000000) (ha : at' < A.length) : ∃ X Y, loopO (ref05_Combine_b3 (at' : Int)) (A, B, ((A.length - 1 : Nat) : Int)) = some (.inl (X, Y)) ∧ ShI A X at' ∧ ShI B Y at' := by
  obtain ⟨r, h1, X, Y, rfl, h2, h3⟩ := loop_down (b := ref05_Combine_b3 (at' : Int)) at' (fun j a => ∃ X Y, a = (X, Y, (j : Int)) ∧ j < A.length ∧ ShI A X j ∧ ShI B Y j) (fun r => ∃ X Y, r = .inl (X, Y) ∧ ShI A X at' ∧ ShI B Y at')
    (by
      rintro j _ hj ⟨X, Y, rfl, hjA, hX, hY⟩
      have e1 := hX.1
      have e2 := hY.1
      simp only [ref05_Combine_b3]
      rw [if_pos (by omega), w_pred (by omega) (by omega), mo_at (show j - 1 < X.length by omega), mo_at (show j < X.length by omega), mo_at (show j - 1 < Y.length by omega), mo_at (show j < Y.length by omega)]
      exact ⟨_, rfl, _, _, rfl, by omega, hX.step (by omega) (by omega), hY.step (by omega) (by omega)⟩)
    (by
      rintro _ ⟨X, Y, rfl, hjA, hX, hY⟩
      exact ⟨_, if_neg (by omega), X, Y, rfl, hX, hY⟩) (A.length - 1) (by omega) (A, B, ((A.length - 1 : Nat) : Int)) ⟨A, B, rfl, by omega, ⟨rfl, fun k k1 k2 => by rw [dif_pos (by omega)]⟩, ⟨rfl, fun k k1 k2 => by rw [dif_pos (by omega)]⟩⟩
  exact ⟨X, Y, h1, h2, h3⟩
theorem shift4 (at' : Nat) (A : List Ed) (B : List (Int × Int)) (h0 : 0 < A.length) (hAB : A.length = B.length) (hl : A.length ≤ 1000000) (ha : at' < A.length) : ∃ X Y, loopO (ref05_Combine_b4 (at' : Int)) (A, B, ((A.length - 1 : Nat) : Int)) = some (.inl (X, Y)) ∧ ShI A X at' ∧ ShI B Y at' := shift3 at' A B h0 hAB hl ha
/-- What is known of edges, and of their sums. -/
structure SumW (r : Int) (K : Ed → Prop) (P : Int × Int → Prop) : Prop where
  lo : ∀ a, P a → u64r a.2
  one : ∀ y, K y → P (ofW y.2.2)
  add : ∀ a b, P a → P b → P (ringAdd r a b)
/-- Edges and their sums, while they are combined. -/
structure CI (K : Ed → Prop) (P : Int × Int → Prop) (c : Nat) (E : List Ed) (S : List (Int × Int)) : Prop where
  len : E.length = S.length
  few : E.length ≤ c
  rise : Rises E
  ends : ∀ x ∈ E, ∃ y, K y ∧ x.1 = y.1 ∧ x.2.1 = y.2.1
  lo : ∀ x ∈ S, P x
theorem below_keys {a b a' b' : Ed} (h1 : a.1 = a'.1) (h2 : a.2.1 = a'.2.1) (h3 : b.1 = b'.1) (h4 : b.2.1 = b'.2.1) : belowB a b = belowB a' b' := by unfold belowB; rw [h1, h2, h3, h4]
theorem CI.ins {K : Ed → Prop} {P : Int × Int → Prop} {c : Nat} {E : List Ed} {S : List (Int × Int)} (h : CI K P c E S) {e : Ed} (he : K e) {i : Nat} (hi : i ≤ E.length) (hb : ∀ k (hk : k < E.length), k < i → belowB E[k] e = true) (ha : ∀ (hk : i < E.length), belowB e E[i] = true) {s : Int × Int} (hs : P s) (w : Int) : CI K P (c + 1) (insAt E i (e.1, e.2.1, w)) (insAt S i s) := by
  have hiS : i ≤ S.length := by rw [← h.len]; exact hi
  refine ⟨by rw [insAt_len hi, insAt_len hiS, h.len], by rw [insAt_len hi]; have := h.few; omega, fun a b h1 h2 hab => ?_, fun x hx => ?_, fun x hx => ?_⟩
  · have hla := h1
    have hlb := h2
    rw [insAt_len hi] at hla hlb
    rw [insAt_get hi, insAt_get hi]
    have hafter : ∀ k (hk : k < E.length), i ≤ k → belowB e E[k] = true := fun k hk hik => by
      by_cases c : k = i
      · subst c; exact ha hk
      · exact below_trans (ha (by omega)) (h.rise i k (by omega) hk (by omega))
    by_cases c1 : a < i
    · rw [dif_pos c1]
      by_cases c2 : b < i
      · rw [dif_pos c2]; exact h.rise a b (by omega) (by omega) hab
      · rw [dif_neg c2]
        by_cases c3 : b = i
        · rw [dif_pos c3]; exact (below_keys (a := E[a]) (b := (e.1, e.2.1, w)) (a' := E[a]) (b' := e) rfl rfl rfl rfl).trans (hb a (by omega) c1)
        · rw [dif_neg c3]; exact h.rise a (b - 1) (by omega) (by omega) (by omega)
    · rw [dif_neg c1, dif_neg (show ¬ b < i by omega), dif_neg (show ¬ b = i by omega)]
      by_cases c3 : a = i
      · rw [dif_pos c3]; exact (below_keys (a := (e.1, e.2.1, w)) (b := E[b - 1]) (a' := e) (b' := E[b - 1]) rfl rfl rfl rfl).trans (hafter (b - 1) (by omega) (by omega))
      · rw [dif_neg c3]; exact h.rise (a - 1) (b - 1) (by omega) (by omega) (by omega)
  · unfold insAt at hx
    rcases List.mem_append.1 hx with hx | hx
    · exact h.ends x (List.mem_of_mem_take hx)
    · rcases List.mem_cons.1 hx with rfl | hx
      · exact ⟨e, he, rfl, rfl⟩
      · exact h.ends x (List.mem_of_mem_drop hx)
  · unfold insAt at hx
    rcases List.mem_append.1 hx with hx | hx
    · exact h.lo x (List.mem_of_mem_take hx)
    · rcases List.mem_cons.1 hx with rfl | hx
      · exact hs
      · exact h.lo x (List.mem_of_mem_drop hx)
/-- Where an edge belongs. -/
theorem place2 (s : Sl Ed) (E : List Ed) (j : Nat) (hok : okS 3 s) (hj : j < s.l.length) (hE : E.length ≤ 1000000) : ∃ i : Nat, i ≤ E.length ∧ loopO (ref05_Combine_b2 s E (j : Int)) 0 = some (.inl (i : Int)) ∧ (∀ k (hk : k < E.length), k < i → belowB E[k] s.l[j] = true) ∧ (∀ hk : i < E.length, belowB E[i] s.l[j] = false) := by
  obtain ⟨r, h1, i, rfl, h2⟩ := loop_up (b := ref05_Combine_b2 s E (j : Int)) E.length (fun i a => a = (i : Int) ∧ ∀ k (hk : k < E.length), k < i → belowB E[k] s.l[j] = true) (fun r => ∃ i : Nat, r = .inl (i : Int) ∧ i ≤ E.length ∧ (∀ k (hk : k < E.length), k < i → belowB E[k] s.l[j] = true) ∧ (∀ hk : i < E.length, belowB E[i] s.l[j] = false))
    (by
      rintro i _ hi ⟨rfl, ha⟩
      simp only [ref05_Combine_b2, mo_at hi, at_get hok hj, Option.bind_some, below_eq, w_succ hi (by omega)]
      rw [if_pos (by omega)]
      cases c : belowB E[i] s.l[j] with
      | true =>
        refine .inl ⟨_, if_pos rfl, rfl, fun k hk hki => ?_⟩
        by_cases e : k = i
        · subst e; exact c
        · exact ha k hk (by omega)
      | false =>
        exact .inr ⟨_, if_neg (by simp), i, rfl, by omega, ha, fun _ => c⟩)
    (by
      rintro _ ⟨rfl, ha⟩
      exact ⟨_, if_neg (by omega), _, rfl, Nat.le_refl _, ha, fun hk => absurd hk (by omega)⟩) 0 (Nat.zero_le _) 0 ⟨rfl, fun k _ h => absurd h (by omega)⟩
  exact ⟨i, h2.1, h1, h2.2⟩
/-- All edges, one after another. -/
theorem comb_loop (r : Int) (s : Sl Ed) (hok : okS 3 s) (hl : s.l.length ≤ 5000) (K : Ed → Prop) (P : Int × Int → Prop) (hP : SumW r K P) (hK : ∀ x ∈ s.l, K x) : ∃ E S, loopO (ref05_Combine_b1 r s) ([], [], 0) = some (.inl (E, S)) ∧ CI K P s.l.length E S := by
  obtain ⟨q, h1, E, S, rfl, h2⟩ := loop_up (b := ref05_Combine_b1 r s) s.l.length (fun j a => ∃ E S, a = (E, S, (j : Int)) ∧ CI K P j E S) (fun q => ∃ E S, q = .inl (E, S) ∧ CI K P s.l.length E S)
    (by
      rintro j _ hj ⟨E, S, rfl, hI⟩
      have hfew := hI.few
      have hlen := hI.len
      obtain ⟨i, hi, hp, hb, hnb⟩ := place2 s E j hok hj (by omega)
      have hKj : K s.l[j] := hK _ (List.getElem_mem hj)
      simp only [ref05_Combine_b1, hp, at_get hok hj, Option.bind_some, Sum.elim_inl, ref01_Of_eq, w_succ hj (by omega)]
      rw [if_pos (by omega)]
      have happ1 : app E ([(0, 0, 0)] : List Ed) = some (E ++ [(0, 0, 0)]) := app_ok (by simp; unfold bound; omega)
      have happ2 : app S ([(0, 0)] : List (Int × Int)) = some (S ++ [(0, 0)]) := app_ok (by simp; unfold bound; omega)
      have hW : IntKind.i64.wrap ((((E ++ ([(0, 0, 0)] : List Ed)).length : Nat) : Int) - 1) = (((E ++ ([(0, 0, 0)] : List Ed)).length - 1 : Nat) : Int) := w_pred (by simp) (by simp; omega)
      have hins : (∀ hk : i < E.length, belowB s.l[j] E[i] = true) → ∃ X Y, ShI (E ++ [(0, 0, 0)]) X i ∧ ShI (S ++ [(0, 0)]) Y i ∧ i < X.length ∧ i < Y.length ∧ loopO (ref05_Combine_b3 (i : Int)) (E ++ [(0, 0, 0)], S ++ [(0, 0)], (((E ++ ([(0, 0, 0)] : List Ed)).length - 1 : Nat) : Int)) = some (.inl (X, Y)) ∧ loopO (ref05_Combine_b4 (i : Int)) (E ++ [(0, 0, 0)], S ++ [(0, 0)], (((E ++ ([(0, 0, 0)] : List Ed)).length - 1 : Nat) : Int)) = some (.inl (X, Y)) ∧ CI K P (j + 1) (X.set i (s.l[j].1, s.l[j].2.1, 0)) (Y.set i (ofW s.l[j].2.2)) := fun hab => by
        obtain ⟨X, Y, g1, g2, g3⟩ := shift3 i (E ++ [(0, 0, 0)]) (S ++ [(0, 0)]) (by simp) (by simp [hlen]) (by simp; omega) (by simp; omega)
        have lX : X.length = E.length + 1 := by rw [g2.1]; simp
        have lY : Y.length = S.length + 1 := by rw [g3.1]; simp
        refine ⟨X, Y, g2, g3, by omega, by omega, g1, g1, ?_⟩
        rw [shift_end (l := E) (z := (0, 0, 0)) hi lX (fun k hk => g2.2 k hk (by simp; omega)), shift_end (l := S) (z := (0, 0)) (by omega) lY (fun k hk => g3.2 k hk (by simp; omega))]
        exact hI.ins hKj hi hb hab (hP.one _ hKj) 0
      by_cases c : (i : Int) < (E.length : Int)
      · rw [if_pos c]
        have ci : i < E.length := by omega
        simp only [mo_at ci, Option.bind_some, below_eq]
        cases c2 : belowB s.l[j] E[i] with
        | true =>
          have c' : belowB (s.l[j].1, s.l[j].2.1, s.l[j].2.2) (E[i].1, E[i].2.1, E[i].2.2) = true := c2
          obtain ⟨X, Y, g1, g2, g3, g4, g5, g6, g7⟩ := hins fun _ => c2
          simp only [c', if_true, happ1, happ2, Option.bind_some, hW, g5, Sum.elim_inl, mo_at g3, mo_at g4, Int.toNat_natCast]
          exact .inl ⟨_, rfl, _, _, rfl, g7⟩
        | false =>
          have c' : belowB (s.l[j].1, s.l[j].2.1, s.l[j].2.2) (E[i].1, E[i].2.1, E[i].2.2) = false := c2
          have cS : i < S.length := by omega
          simp only [c', Bool.false_eq_true, if_false, mo_at cS, Option.bind_some, ref02_Add_eq, Int.toNat_natCast]
          refine .inl ⟨_, rfl, _, _, rfl, ?_⟩
          refine ⟨by rw [List.length_set]; exact hI.len, by omega, hI.rise, hI.ends, fun x hx => ?_⟩
          rcases List.mem_or_eq_of_mem_set hx with hx | rfl
          · exact hI.lo x hx
          · exact hP.add _ _ (hI.lo _ (List.getElem_mem cS)) (hP.one _ hKj)
      · rw [if_neg c]
        obtain ⟨X, Y, g1, g2, g3, g4, g5, g6, g7⟩ := hins fun hk => absurd hk (by omega)
        simp only [happ1, happ2, Option.bind_some, hW, g6, Sum.elim_inl, mo_at g3, mo_at g4, Int.toNat_natCast]
        exact .inl ⟨_, rfl, _, _, rfl, g7⟩)
    (by
      rintro _ ⟨E, S, rfl, hI⟩
      exact ⟨_, if_neg (by omega), E, S, rfl, hI⟩) 0 (Nat.zero_le _) ([], [], 0) ⟨[], [], rfl, ⟨rfl, Nat.le_refl _, fun i j hi => absurd hi (by simp), fun x hx => by simp at hx, fun x hx => by simp at hx⟩⟩
  exact ⟨E, S, h1, h2⟩
end Ev
end Go.Proofs.Ytioagbejilllfaa
