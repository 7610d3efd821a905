/- The evaluator is right at each operation that touches no block. No program is named here. -/
import Derived.Laws.MakeOwn
import Derived.Test.YtjomjfjbpcafhaaDoorEv2
namespace Go.Proofs.YtjomjfjbpcafhaaDoor
namespace Ev
open Go Go.RowKit
set_option linter.unusedVariables false
set_option linter.unusedSimpArgs false

theorem pureOf_run {α : Type} {P : Program} {s : Sem α} {a : α} (h : pureOf P s = some a) (w : World) : s.run P w = .ok a w := by
  induction s with
  | pure b => simp [pureOf] at h; subst h; rfl
  | program k ih => exact ih P (by simpa [pureOf] using h)
  | _ => simp [pureOf] at h

section
variable {w : World} {base : Nat} {F : Nat → Prop} {ρ : Nat → Nat} {H : Heap}

theorem rep_plain {fr : Bool} {x : Value} (h : x.oneCell' = true) : RepC w base F ρ H (.p fr (.v x)) x := .p fr _ x (.v x h)
theorem rep_pC {fr : Bool} {t : T} {y : Value} (h : RepC w base F ρ H (.p fr t) y) : RepC w base F ρ H (pC fr t) y := by
  cases t with
  | v x => cases h with | p _ _ _ h => cases h with | v _ hx => exact .p true _ _ (.v _ hx)
  | s nn sz l => exact h
theorem rep_mk {x : Value} (h : x.oneCell' = true) : RepD w base F ρ H (mk x) x := .one _ x (rep_plain h)
theorem rep_nil {fr : Bool} {sz : Nat} : RepC w base F ρ H (.p fr (.s false sz [])) (.slice none 0 0) :=
  .p _ _ _ (.s false sz [] none 0 (fun _ _ => .nilFunc) rfl (Nat.le_refl _) (fun _ => rfl) (fun i e h => by simp at h) (fun i e j t h => by simp at h) fun i e j t h => by simp at h)
theorem rep_zero {x : Value} (h : x.oneCell' = true) : RepC w base F ρ H (zeroC x) x := by
  unfold zeroC
  split
  · exact rep_nil
  · exact rep_plain h
theorem one1_eq (x : Value) : one1 x = x.oneCell' := by cases x <;> rfl
theorem rep_zeros {l : List Value} (h : ∀ x ∈ l, x.oneCell' = true) : RepCs w base F ρ H (l.map zeroC) l := by
  refine ⟨by simp, fun i c hi => ?_⟩
  simp only [List.getElem?_map, Option.map_eq_some_iff] at hi
  obtain ⟨x, h1, rfl⟩ := hi
  exact ⟨x, h1, rep_zero (h x (List.mem_of_getElem? h1))⟩
theorem rep_undef : RepD w base F ρ H undefD undef := .tup [] #[] (fun _ => .nilFunc) rfl (fun i d h => by simp at h) fun i d h => by simp at h
theorem rep_const {v : Value} {d : D} (h : constD v = some d) : RepD w base F ρ H d v := by
  unfold constD at h
  split at h
  · rename_i cs
    split at h
    · rename_i ha
      simp only [Option.some.injEq] at h
      subst h
      have := RepD.agg (w := w) (base := base) (F := F) (ρ := ρ) (H := H) (cs.toList.map zeroC) cs.toList (rep_zeros fun x hx => by rw [← one1_eq]; exact List.all_eq_true.1 ha x hx)
      simpa using this
    · simp at h
  · simp at h
  · rename_i h1 h2
    simp only [Option.some.injEq] at h
    subst h
    refine .one _ _ (rep_zero ?_)
    cases v with
    | agg cs => exact absurd rfl (h1 cs)
    | tuple vs => exact absurd rfl (h2 vs)
    | _ => rfl

/-- The slots of a frame. -/
def RelT (w : World) (base : Nat) (F : Nat → Prop) (ρ : Nat → Nat) (H : Heap) (t : List D) (a : Act) : Prop :=
  a.defers = a.defers ∧ t.length = a.tmps.size ∧ ∀ (i : Nat) d, t[i]? = some d → ∃ y, a.tmps[i]? = some y ∧ RepD w base F ρ H d y
/-- Slots that are looked at. -/
def RelG (w : World) (base : Nat) (F : Nat → Prop) (ρ : Nat → Nat) (H : Heap) (g : Tmp → Option D) (a : Act) : Prop := ∀ (i : Nat) d, g i = some d → ∃ y, a.tmps[i]? = some y ∧ RepD w base F ρ H d y
theorem RelT.g {t : List D} {a : Act} (h : RelT w base F ρ H t a) : RelG w base F ρ H (slots t) a := h.2.2
theorem RelG.opnd {g : Tmp → Option D} {a : Act} (h : RelG w base F ρ H g a) {x : Operand} {d : D} (hx : opndG g x = some d) : RepD w base F ρ H d (a.eval x) := by
  cases x with
  | tmp i =>
    obtain ⟨y, h1, h2⟩ := h i d hx
    have : a.eval (.tmp i) = y := by simp [Act.eval, Array.getD_eq_getD_getElem?, h1]
    rw [this]; exact h2
  | const v => exact rep_const hx
  | global g => simp [opndG] at hx
  | func f =>
    simp only [opndG, Option.some.injEq] at hx
    subst hx
    exact rep_mk rfl
theorem RelT.set {t t' : List D} {a : Act} (h : RelT w base F ρ H t a) {dst : Option Tmp} {d : D} {y : Value} (hs : setT t dst d = some t') (hr : RepD w base F ρ H d y) : RelT w base F ρ H t' (a.put dst y) := by
  obtain ⟨h1, h2, h3⟩ := h
  cases dst with
  | none => simp only [setT, Option.some.injEq] at hs; subst hs; exact ⟨h1, h2, h3⟩
  | some i =>
    simp only [setT] at hs
    split at hs
    · rename_i hi
      simp only [Option.some.injEq] at hs
      subst hs
      refine ⟨h1, by simp [Act.put, h2], fun k e hk => ?_⟩
      simp only [Act.put]
      by_cases hik : i = k
      · subst hik
        simp only [List.getElem?_set, hi, if_true, Option.some.injEq] at hk
        subst hk
        exact ⟨y, by simp [Array.getElem?_setIfInBounds, ← h2, hi], hr⟩
      · simp only [List.getElem?_set, hik, if_false] at hk
        obtain ⟨z, g1, g2⟩ := h3 k e hk
        exact ⟨z, by simp [Array.getElem?_setIfInBounds, hik, g1], g2⟩
    · simp at hs
theorem RelT.mono {w' : World} {F' : Nat → Prop} {ρ' : Nat → Nat} {H' : Heap} {t : List D} {a : Act} (hh : ∀ c y, RepC w base F ρ H c y → RepC w' base F' ρ' H' c y) (h : RelT w base F ρ H t a) :
    RelT w' base F' ρ' H' t a :=
  ⟨h.1, h.2.1, fun i d hi => let ⟨y, h1, h2⟩ := h.2.2 i d hi; ⟨y, h1, h2.mono hh⟩⟩

theorem dcells_rep {d : D} {cs : List C} {y : Value} (h : RepD w base F ρ H d y) (hc : dcells d = some cs) : RepCs w base F ρ H cs y.cells.toList ∧ ∀ x ∈ y.cells.toList, x.oneCell' = true := by
  have key : ∀ (cs : List C) (ys : List Value), RepCs w base F ρ H cs ys → ∀ x ∈ ys, x.oneCell' = true := by
    intro cs ys ⟨g1, g2⟩ x hx
    obtain ⟨i, hi, rfl⟩ := List.getElem_of_mem hx
    obtain ⟨y, e1, e2⟩ := g2 i cs[i] (by simp [g1, hi])
    rw [List.getElem?_eq_getElem hi] at e1
    rw [Option.some.inj e1]
    exact e2.one
  cases h with
  | one c y h =>
    simp only [dcells, Option.some.injEq] at hc
    subst hc
    have h1 := h.one
    have hcell : y.cells.toList = [y] := by cases y <;> first | rfl | (simp [Value.oneCell'] at h1)
    rw [hcell]
    refine ⟨⟨rfl, fun i c' hi => ?_⟩, fun x hx => by simp at hx; subst hx; exact h1⟩
    cases i with
    | zero => simp at hi; subst hi; exact ⟨y, rfl, h⟩
    | succ i => simp at hi
  | agg cs' ys h =>
    simp only [dcells, Option.some.injEq] at hc
    subst hc
    refine ⟨by simpa [Value.cells] using h, by simpa [Value.cells] using key _ _ h⟩
  | tup => simp [dcells] at hc

theorem plainC_rep {c : C} {x y : Value} (h : RepC w base F ρ H c y) (hp : plainC c = some x) : y = x := by
  unfold plainC at hp
  split at hp
  · simp only [Option.some.injEq] at hp
    subst hp
    cases h with
    | p fr t y h => cases h; rfl
  · simp at hp
theorem plainAll_rep : ∀ {cs : List C} {xs ys : List Value}, RepCs w base F ρ H cs ys → plainAll cs = some xs → ys = xs
  | [], xs, ys, h, hp => by
    simp only [plainAll, Option.some.injEq] at hp
    subst hp
    exact List.length_eq_zero_iff.1 h.1.symm
  | c :: r, xs, [], h, hp => by simp [RepCs] at h
  | c :: r, xs, y :: ys, h, hp => by
    simp only [plainAll, Option.bind_eq_bind, Option.bind_eq_some_iff, Option.some.injEq] at hp
    obtain ⟨x, h1, xr, h2, rfl⟩ := hp
    have hc := h.2 0 c rfl
    simp at hc
    have hr : RepCs w base F ρ H r ys := ⟨by have := h.1; simpa using this, fun i c' hi => by have := h.2 (i + 1) c' (by simpa using hi); simpa using this⟩
    rw [plainC_rep hc h1, plainAll_rep hr h2]
theorem plain_rep {d : D} {x y : Value} (h : RepD w base F ρ H d y) (hp : plain d = some x) : y = x := by
  cases h with
  | one c y h => exact plainC_rep h hp
  | agg cs ys h =>
    simp only [plain, Option.bind_eq_bind, Option.bind_eq_some_iff, Option.some.injEq] at hp
    obtain ⟨xs, h1, rfl⟩ := hp
    rw [plainAll_rep h h1]
  | tup => simp [plain] at hp
theorem asNat_rep {d : D} {n : Nat} {y : Value} (h : RepD w base F ρ H d y) (hp : asNat d = some n) : ∃ k, y = .int k (n : Int) := by
  unfold asNat at hp
  split at hp
  · rename_i fr k m
    split at hp
    · rename_i q
      simp only [Option.some.injEq] at hp
      subst hp
      exact ⟨_, plain_rep h rfl⟩
    · simp at hp
  · simp at hp
theorem asBool_rep {d : D} {b : Bool} {y : Value} (h : RepD w base F ρ H d y) (hp : asBool d = some b) : y = .bool b := by
  unfold asBool at hp
  split at hp
  · simp only [Option.some.injEq] at hp
    subst hp
    exact plain_rep h rfl
  · simp at hp
end

structure TiOk (P : Program) (ti : TypeId → Option TI) : Prop where
  und : ∀ t i, ti t = some i → P.underlying t = some i.desc
  info : ∀ t i, ti t = some i → ∃ (o : TypeInfo) (z : Value), P.info? t = some o ∧ o.zero = some z ∧ z.cells.toList = i.zero ∧ o.size = i.size ∧ o.bytes = i.bytes
  zero : ∀ t i, ti t = some i → (∀ x ∈ i.zero, x.oneCell' = true) ∧ i.zero.length = i.size ∧ i.bytes ≤ 65536

theorem agg_run {P : Program} {ti : TypeId → Option TI} (h : TiOk P ti) {t : TypeId} {i : TI} (ht : ti t = some i) (w : World) : (isAgg t).run P w = .ok (isAggD i.desc) w := by
  unfold isAgg
  rw [Sem.run_bind, run_underlying (h.und t i ht) w]
  cases hd : i.desc <;> simp [Result.andThen, isAggD, hd]
theorem size_run {P : Program} {ti : TypeId → Option TI} (h : TiOk P ti) {t : TypeId} {i : TI} (ht : ti t = some i) (w : World) : (sizeOf t).run P w = .ok i.size w := by
  obtain ⟨o, z, h1, h2, h3, h4, h5⟩ := h.info t i ht
  simp [sizeOf, typeInfo, h1, h4]
theorem zero_run {P : Program} {ti : TypeId → Option TI} (h : TiOk P ti) {t : TypeId} {i : TI} (ht : ti t = some i) : ∃ z, z.cells.toList = i.zero ∧ ∀ w, (zeroValue t).run P w = .ok z w := by
  obtain ⟨o, z, h1, h2, h3, h4, h5⟩ := h.info t i ht
  exact ⟨z, h3, fun w => by simp [zeroValue, typeInfo, h1, h2]⟩
end Ev
end Go.Proofs.YtjomjfjbpcafhaaDoor
