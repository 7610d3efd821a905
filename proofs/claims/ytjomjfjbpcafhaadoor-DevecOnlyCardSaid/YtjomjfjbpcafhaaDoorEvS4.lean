/- Arguments of a law, opened; a law out of its function on data. No program is named here. -/
import Derived.Test.YtjomjfjbpcafhaaDoorEvS3
namespace Go.Proofs.YtjomjfjbpcafhaaDoor
namespace Ev
open Go Go.RowKit
set_option linter.unusedVariables false
set_option linter.unusedSimpArgs false

/-- A number of its kind. -/
def inK (k : IntKind) (x : Int) : Prop := (Lit.int k x).wf = true
/-- A slice that came in. -/
def SlW {α : Type} (w : Nat) (Q : α → Prop) (s : Sl α) : Prop := s.sz = w ∧ (s.nn = false → s.l = []) ∧ s.l.length ≤ maxLen ∧ ∀ x ∈ s.l, Q x
section
variable {P : Program} {t : TypeId} {ts : List T}
theorem typ_int {k : IntKind} (hu : P.underlying t = some (.int k)) (h : Typ P t ts) : ∃ x : Int, ts = [iT k x] ∧ inK k x := by
  cases h with
  | int _ k' n h hw => rw [hu] at h; cases h; exact ⟨n, rfl, hw⟩
  | bool _ b h => rw [hu] at h; simp at h
  | str _ s h => rw [hu] at h; simp at h
  | slice _ e nn l h => rw [hu] at h; simp at h
  | struct _ fs tss h => rw [hu] at h; simp at h
  | array _ n e tss h => rw [hu] at h; simp at h
theorem typ_bool (hu : P.underlying t = some .bool) (h : Typ P t ts) : ∃ x : Bool, ts = [bT x] ∧ True := by
  cases h with
  | bool _ b h => exact ⟨b, rfl, trivial⟩
  | int _ k' n h hw => rw [hu] at h; simp at h
  | str _ s h => rw [hu] at h; simp at h
  | slice _ e nn l h => rw [hu] at h; simp at h
  | struct _ fs tss h => rw [hu] at h; simp at h
  | array _ n e tss h => rw [hu] at h; simp at h
theorem rows_open {α β : Type} {r : α → β} {Q : α → Prop} : ∀ {l : List β}, (∀ es ∈ l, ∃ x, es = r x ∧ Q x) → ∃ xs : List α, l = xs.map r ∧ ∀ x ∈ xs, Q x
  | [], _ => ⟨[], rfl, fun x hx => by simp at hx⟩
  | e :: l, h => by
    obtain ⟨x, rfl, hx⟩ := h e List.mem_cons_self
    obtain ⟨xs, rfl, hxs⟩ := rows_open fun e he => h e (List.mem_cons_of_mem _ he)
    exact ⟨x :: xs, rfl, fun y hy => by rcases List.mem_cons.1 hy with rfl | hy; exact hx; exact hxs y hy⟩
theorem typ_slice {α : Type} {r : α → List T} {Q : α → Prop} {e : TypeId} {w : Nat} (hu : P.underlying t = some (.slice e)) (hw : P.cellsOf e = w) (he : ∀ ts, Typ P e ts → ∃ x, ts = r x ∧ Q x) (h : Typ P t ts) : ∃ s : Sl α, ts = [Sl.t r s] ∧ SlW w Q s := by
  cases h with
  | slice _ e' nn l h hn hl h1 h2 =>
    rw [hu] at h; cases h
    obtain ⟨xs, rfl, hq⟩ := rows_open (r := r) (Q := Q) fun es hes => he es (h2 es hes)
    exact ⟨⟨nn, w, xs⟩, by rw [hw]; rfl, rfl, fun hh => by simpa using hn hh, by simpa using hl, hq⟩
  | int _ k' n h hw => rw [hu] at h; simp at h
  | bool _ b h => rw [hu] at h; simp at h
  | str _ s h => rw [hu] at h; simp at h
  | struct _ fs tss h => rw [hu] at h; simp at h
  | array _ n e tss h => rw [hu] at h; simp at h
theorem typ_struct {fs : Array Field} (hu : P.underlying t = some (.struct fs)) (h : Typ P t ts) : ∃ tss : List (List T), ts = tss.flatten ∧ tss.length = fs.toList.length ∧ ∀ (i : Nat) f ts', fs.toList[i]? = some f → tss[i]? = some ts' → Typ P f.type ts' := by
  cases h with
  | struct _ fs' tss h hl hf => rw [hu] at h; cases h; exact ⟨tss, rfl, by simpa using hl, fun i f ts' h1 h2 => hf i f ts' (by simpa using h1) h2⟩
  | int _ k' n h hw => rw [hu] at h; simp at h
  | bool _ b h => rw [hu] at h; simp at h
  | str _ s h => rw [hu] at h; simp at h
  | slice _ e nn l h => rw [hu] at h; simp at h
  | array _ n e tss h => rw [hu] at h; simp at h
theorem typ_array {n : Nat} {e : TypeId} (hu : P.underlying t = some (.array n e)) (h : Typ P t ts) : ∃ tss : List (List T), ts = tss.flatten ∧ tss.length = n ∧ ∀ ts' ∈ tss, Typ P e ts' := by
  cases h with
  | array _ n' e' tss h hl hf => rw [hu] at h; cases h; exact ⟨tss, rfl, hl, hf⟩
  | int _ k' n h hw => rw [hu] at h; simp at h
  | bool _ b h => rw [hu] at h; simp at h
  | str _ s h => rw [hu] at h; simp at h
  | slice _ e nn l h => rw [hu] at h; simp at h
  | struct _ fs tss h => rw [hu] at h; simp at h
theorem typd_one {ts : List TypeId} {tds : List TD} {d : TypeDesc} (hu : P.underlying t = some d) (ha : isAggD d = false) (h : TypDs P (t :: ts) tds) : ∃ x r, tds = .one x :: r ∧ Typ P t [x] ∧ TypDs P ts r := by
  cases h with
  | cons t ts td ds h hr =>
    cases h with
    | one x h _ => exact ⟨x, ds, rfl, h, hr⟩
    | agg xs h h2 => obtain ⟨d', h3, h4⟩ := h2; rw [hu] at h3; cases h3; rw [ha] at h4; simp at h4
theorem typd_agg {ts : List TypeId} {tds : List TD} {d : TypeDesc} (hu : P.underlying t = some d) (ha : isAggD d = true) (h : TypDs P (t :: ts) tds) : ∃ x r, tds = .agg x :: r ∧ Typ P t x ∧ TypDs P ts r := by
  cases h with
  | cons t ts td ds h hr =>
    cases h with
    | agg x h _ => exact ⟨x, ds, rfl, h, hr⟩
    | one xs h h2 => obtain ⟨d', h3, h4⟩ := h2; rw [hu] at h3; cases h3; rw [ha] at h4; simp at h4
theorem typd_nil {tds : List TD} (h : TypDs P [] tds) : tds = [] := by cases h; rfl
end
theorem law_of {E : Env} {n : Nat} {k : FuncId} {tds : List TD} (h : RunsP E n k tds (.fresh, [.one (bT true)])) : ∃ m n kind, (callers E m n).1 k tds = some (kind, [.one (.v (.bool true))]) := by
  obtain ⟨M, hM⟩ := h
  exact ⟨M, n, .fresh, hM M (Nat.le_refl _)⟩

/-! Loops that count. -/
theorem loop_up {A R : Type} {b : A → Option (A ⊕ R)} (n : Nat) (I : Nat → A → Prop) (Q : R → Prop) (hs : ∀ j a, j < n → I j a → (∃ a', b a = some (.inl a') ∧ I (j + 1) a') ∨ ∃ r, b a = some (.inr r) ∧ Q r) (he : ∀ a, I n a → ∃ r, b a = some (.inr r) ∧ Q r) (j : Nat) (hj : j ≤ n) (a : A) (ha : I j a) : ∃ r, loopO b a = some r ∧ Q r := by
  obtain ⟨k, hk⟩ : ∃ k, n = j + k := ⟨n - j, by omega⟩
  induction k generalizing j a with
  | zero =>
    have : j = n := by omega
    subst this
    obtain ⟨r, h1, h2⟩ := he a ha
    exact ⟨r, loopO_done h1, h2⟩
  | succ k ih =>
    rcases hs j a (by omega) ha with ⟨a', h1, h2⟩ | ⟨r, h1, h2⟩
    · obtain ⟨r, h3, h4⟩ := ih (j + 1) (by omega) a' h2 (by omega)
      exact ⟨r, (loopO_step h1).trans h3, h4⟩
    · exact ⟨r, loopO_done h1, h2⟩
theorem at_get {α : Type} {w : Nat} {s : Sl α} (hs : s.l = [] ∨ s.sz = w) {j : Nat} (hj : j < s.l.length) : atS w s (j : Int) = some s.l[j] := by
  have hw : s.sz = w := hs.resolve_left (by intro h; rw [h] at hj; simp at hj)
  unfold atS
  rw [if_pos ⟨by omega, hw⟩]
  simp
theorem atL_get {α : Type} {l : List α} {j : Nat} (hj : j < l.length) : atL l (j : Int) = some l[j] := by
  unfold atL
  rw [if_pos (by omega)]
  simp
theorem app_ok {α : Type} {l m : List α} (h : l.length + m.length ≤ bound) : app l m = some (l ++ m) := by unfold app; rw [if_pos h]
theorem w_succ {j n : Nat} (h : j < n) (hn : n ≤ 9223372036854775807) : IntKind.i64.wrap ((j : Int) + 1) = ((j + 1 : Nat) : Int) := by rw [wrap64 (by omega) (by omega)]; rfl
/-- A slice of its own that has elements, as one that may be nil. -/
def neL {α : Type} (l : List α) : Option Unit :=
  match l with
  | [] => none
  | _ :: _ => some ()
theorem neL_some {α : Type} {l : List α} (h : l ≠ []) : neL l = some () := by
  cases l with
  | nil => exact absurd rfl h
  | cons a l => rfl
theorem ne_moC {α : Type} {l : List α} {k : Nat} {u : Unit} (h : neL l = some u) : C.own k 0 l.length = moC l k := by
  cases l with
  | nil => simp [neL] at h
  | cons a l => rfl
theorem ne_moL {α : Type} {r : α → List T} {w k : Nat} {l : List α} {u : Unit} (h : neL l = some u) : ([(k, w, l.map (rowC r))] : List B1) = moL r w l k := by
  cases l with
  | nil => simp [neL] at h
  | cons a l => rfl
theorem L_re {E : Env} {y : Nat → YldP} {n nt : Nat} {f : Nat → D} {L : BL} {c : Code} {Q : Ex → St → Prop} (i : Nat) {v : D} (h : f i = v) (h2 : WpL E y n nt c Q (up f i v) L) : WpL E y n nt c Q f L := by rw [up_self h] at h2; exact h2
theorem L_reS {E : Env} {y : Nat → YldP} {n nt : Nat} {f : Nat → D} {L : BL} {c : Code} {Q : Ex → St → Prop} (q : Nat) {s s' : List B1} (hq : L[q]? = some s) (he : s = s') (h : WpL E y n nt c Q f (L.set q s')) : WpL E y n nt c Q f L := by subst he; rw [set_same hq] at h; exact h
theorem E_re {nt : Nat} {f : Nat → D} {L : BL} {e : Ex} {Q : Ex → St → Prop} (i : Nat) {v : D} (h : f i = v) (h2 : EndL nt Q e (up f i v) L) : EndL nt Q e f L := by rw [up_self h] at h2; exact h2
theorem E_reS {nt : Nat} {f : Nat → D} {L : BL} {e : Ex} {Q : Ex → St → Prop} (q : Nat) {s s' : List B1} (hq : L[q]? = some s) (he : s = s') (h : EndL nt Q e f (L.set q s')) : EndL nt Q e f L := by subst he; rw [set_same hq] at h; exact h
end Ev
end Go.Proofs.YtjomjfjbpcafhaaDoor
