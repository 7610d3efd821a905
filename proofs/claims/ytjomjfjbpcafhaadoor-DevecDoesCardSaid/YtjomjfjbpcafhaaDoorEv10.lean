/- The evaluator is right at what a datum shows, and at calls. No program is named here. -/
import Derived.Test.YtjomjfjbpcafhaaDoorEv9
namespace Go.Proofs.YtjomjfjbpcafhaaDoor
namespace Ev
open Go Go.RowKit
set_option linter.unusedVariables false
set_option linter.unusedSimpArgs false

theorem mapM_get {α β : Type} {f : α → Option β} : ∀ {l : List α} {r : List β}, l.mapM f = some r → r.length = l.length ∧ (∀ (i : Nat) x, l[i]? = some x → ∃ z, r[i]? = some z ∧ f x = some z) ∧ ∀ (i : Nat) z, r[i]? = some z → ∃ x, l[i]? = some x ∧ f x = some z
  | [], r, h => by simp at h; subst h; exact ⟨rfl, fun i x hi => by simp at hi, fun i x hi => by simp at hi⟩
  | x :: l, r, h => by
    simp only [List.mapM_cons, Option.bind_eq_bind, Option.bind_eq_some_iff, Option.pure_def, Option.some.injEq] at h
    obtain ⟨z, h1, r', h2, rfl⟩ := h
    obtain ⟨g1, g2, g3⟩ := mapM_get h2
    refine ⟨by simpa using g1, fun i x' hi => ?_, fun i z' hi => ?_⟩
    · cases i with
      | zero => simp at hi; subst hi; exact ⟨z, rfl, h1⟩
      | succ i => simpa using g2 i x' (by simpa using hi)
    · cases i with
      | zero => simp at hi; subst hi; exact ⟨x, rfl, h1⟩
      | succ i => simpa using g3 i z' (by simpa using hi)

def RepTs (w : World) (F : Nat → Prop) (ts : List T) (ys : List Value) : Prop := ts.length = ys.length ∧ ∀ (i : Nat) t, ts[i]? = some t → ∃ y, ys[i]? = some y ∧ RepT w F t y
inductive RepTD (w : World) (F : Nat → Prop) : TD → Value → Prop
  | one (t : T) (y : Value) (h : RepT w F t y) : RepTD w F (.one t) y
  | agg (ts : List T) (ys : List Value) (h : RepTs w F ts ys) : RepTD w F (.agg ts) (.agg ys.toArray)
def RepTDs (w : World) (F : Nat → Prop) (ts : List TD) (ys : List Value) : Prop := ts.length = ys.length ∧ ∀ (i : Nat) t, ts[i]? = some t → ∃ y, ys[i]? = some y ∧ RepTD w F t y
def RepRes (w : World) (F : Nat → Prop) : List TD → Value → Prop
  | [r], y => RepTD w F r y
  | rs, y => ∃ ys, y = .tuple ys.toArray ∧ RepTDs w F rs ys
/-- A slice of plain values in a block of its own, from a number of blocks on. -/
def OwnRes (w' : World) (B : Nat) (rs : List TD) (y : Value) : Prop :=
  ∃ (b c sz : Nat) (l : List (List T)), rs = [.one (.s true sz l)] ∧ y = .slice (some ⟨b, 0, none⟩) l.length c ∧ l.length ≤ c ∧ B ≤ b ∧ b < w'.heap.size ∧ c * sz ≤ bsize w' b ∧ (∀ o, w'.frozen? ⟨b, o, none⟩ = false) ∧
    (∀ (i : Nat) e, l[i]? = some e → e.length = sz) ∧ ∀ (i j : Nat) e t, l[i]? = some e → e[j]? = some t → ∃ x, t = .v x ∧ x.oneCell' = true ∧ w'.cell? ⟨b, i * sz + j, none⟩ = some x
/-- A function, called with data, hands data back: all new, or of what it was handed. -/
def PureOk (P : Program) (k : FuncId) (vs : List TD) (kind : Kind) (rs : List TD) : Prop :=
  ∀ (w : World) (F : Nat → Prop) (ys : List Value), LD w.heap.size w → (∀ b, F b → b < w.heap.size) → RepTDs w F vs ys →
    Calls P k ys.toArray w fun e w' => ∃ y, e = .returned y ∧ RepRes w' (fun b => b < w.heap.size ∧ (kind ≠ .any ∨ F b)) rs y ∧ (kind = .own → OwnRes w' w.heap.size rs y) ∧ Below w.heap.size w w'

theorem RepT.weak {w : World} {F F' : Nat → Prop} (hF : ∀ b, F' b → F b) {t : T} {y : Value} (h : RepT w F t y) : RepT w F' t y :=
  h.mono (Nat.le_refl _) fun b _ _ hn => ⟨rfl, fun hf => hn (hF b hf)⟩
theorem RepTs.weak {w : World} {F F' : Nat → Prop} (hF : ∀ t y, RepT w F t y → RepT w F' t y) {ts : List T} {ys : List Value} (h : RepTs w F ts ys) : RepTs w F' ts ys :=
  ⟨h.1, fun i t hi => let ⟨y, h1, h2⟩ := h.2 i t hi; ⟨y, h1, hF t y h2⟩⟩

section
variable {w : World} {base : Nat} {F0 : Nat → Prop} {ρ : Nat → Nat} {H : Heap}

theorem view_ok (R : HRel w base F0 ρ H) : ∀ (d : Nat) (c : C) (b : Bool) (t : T) (y : Value), view H d c = some (b, t) → RepC w base (Fb F0 ρ H) ρ H c y → RepT w (fun _ => False) t y ∧ (isOwned c = false → RepT w (Frs (Fb F0 ρ H) base b) t y) := by
  have hp : ∀ (fr b : Bool) (t t' : T) (y : Value), some ((match t with | .v _ => true | _ => fr), t) = some (b, t') → RepC w base (Fb F0 ρ H) ρ H (.p fr t) y → RepT w (fun _ => False) t' y ∧ (isOwned (.p fr t) = false → RepT w (Frs (Fb F0 ρ H) base b) t' y) := by
    intro fr b t t' y h hr
    simp only [Option.some.injEq, Prod.mk.injEq] at h
    obtain ⟨h1, rfl⟩ := h
    cases hr with
    | p fr t y hr =>
      refine ⟨hr.weak fun _ h => h.elim, fun _ => ?_⟩
      cases t with
      | v x => cases hr with | v _ hx => exact .v _ hx
      | s nn sz l => simp at h1; subst h1; exact hr
  intro d
  induction d with
  | zero =>
    intro c b t y h hr
    cases c with
    | p fr t0 => exact hp fr b t0 t y h hr
    | _ => simp [view] at h
  | succ d ih =>
    intro c b t y h hr
    cases c with
    | p fr t0 => exact hp fr b t0 t y h hr
    | own k off n =>
      simp only [view, Option.bind_eq_bind, Option.bind_eq_some_iff, Option.some.injEq, Prod.mk.injEq] at h
      obtain ⟨⟨sz, es⟩, h1, es', h2, r, h3, h4, rfl⟩ := h
      have hb := getBlk_some h1
      obtain ⟨m1, m2, m3⟩ := mapM_get h3
      obtain ⟨c1, c2, c3⟩ := cut_some h2
      cases hr with
      | own k off n c a hk hn ha =>
        obtain ⟨g1, g2⟩ := ha _ _ hb
        refine ⟨?_, fun h => by simp [isOwned] at h⟩
        have hlen : (r.map (·.map (·.2))).length = n := by simp [m1, c1]
        have := RepT.s (w := w) (F := fun _ => False) true sz (r.map (·.map (·.2))) (some a) c (fun i j => (w.cell? (a.add (i * sz + j))).getD .nilFunc) rfl (by omega) (fun h => by cases h)
          (fun i e hi => by
            simp only [List.getElem?_map, Option.map_eq_some_iff] at hi
            obtain ⟨q, q1, rfl⟩ := hi
            obtain ⟨x, x1, x2⟩ := m3 i q q1
            obtain ⟨l1, l2⟩ := cut_get h2 x1
            have := R.wid k sz es hb _ x l2
            simp [(mapM_get x2).1, this]) ?_ ?_
        · rwa [hlen] at this
        all_goals
          intro i e j t hi hj
          simp only [List.getElem?_map, Option.map_eq_some_iff] at hi
          obtain ⟨q, q1, rfl⟩ := hi
          simp only [List.getElem?_map, Option.map_eq_some_iff] at hj
          obtain ⟨p, p1, rfl⟩ := hj
          obtain ⟨x, x1, x2⟩ := m3 i q q1
          obtain ⟨l1, l2⟩ := cut_get h2 x1
          obtain ⟨n1, n2, n3⟩ := mapM_get x2
          obtain ⟨cc, d1, d2⟩ := n3 j p p1
          obtain ⟨y, e1, e2⟩ := R.cell k sz es hb _ j x cc l2 d1
          have e3 : w.cell? (a.add (i * sz + j)) = some y := by rw [g1, Addr.add_mid, ← e1, Nat.add_mul, Nat.add_assoc]
        · refine ⟨a, rfl, ?_, fun h => h, by rw [e3]; rfl⟩
          rw [g1]
          exact R.lt k sz es hb
        · rw [e3]
          exact (ih cc p.1 p.2 y d2 e2).1
    | _ => simp [view] at h

theorem viewD_ok (R : HRel w base F0 ρ H) {d : D} {b : Bool} {td : TD} {y : Value} (h : viewD H d = some (b, td)) (hr : RepD w base (Fb F0 ρ H) ρ H d y) : RepTD w (fun _ => False) td y ∧ (ownedD d = false → RepTD w (Frs (Fb F0 ρ H) base b) td y) := by
  cases hr with
  | one c y hr =>
    simp only [viewD, Option.bind_eq_bind, Option.bind_eq_some_iff, Option.some.injEq, Prod.mk.injEq] at h
    obtain ⟨⟨b', t⟩, h1, rfl, rfl⟩ := h
    obtain ⟨g1, g2⟩ := view_ok R _ _ _ _ _ h1 hr
    exact ⟨.one _ _ g1, fun ho => .one _ _ (g2 ho)⟩
  | agg cs ys hr =>
    simp only [viewD, Option.bind_eq_bind, Option.bind_eq_some_iff, Option.some.injEq, Prod.mk.injEq] at h
    obtain ⟨r, h1, rfl, rfl⟩ := h
    obtain ⟨m1, m2, m3⟩ := mapM_get h1
    have key : ∀ (i : Nat) t, (r.map (·.2))[i]? = some t → ∃ c b y, cs[i]? = some c ∧ view H 6 c = some (b, t) ∧ (b, t) ∈ r ∧ ys[i]? = some y ∧ RepC w base (Fb F0 ρ H) ρ H c y := by
      intro i t hi
      simp only [List.getElem?_map, Option.map_eq_some_iff] at hi
      obtain ⟨p, p1, rfl⟩ := hi
      obtain ⟨c, c1, c2⟩ := m3 i p p1
      obtain ⟨y, y1, y2⟩ := hr.2 i c c1
      exact ⟨c, p.1, y, c1, c2, List.mem_of_getElem? p1, y1, y2⟩
    have hl : (r.map (·.2)).length = ys.length := by simp [m1, hr.1]
    refine ⟨.agg _ _ ⟨hl, fun i t hi => ?_⟩, fun ho => .agg _ _ ⟨hl, fun i t hi => ?_⟩⟩
    · obtain ⟨c, b, y, k1, k2, k3, k4, k5⟩ := key i t hi
      exact ⟨y, k4, (view_ok R _ _ _ _ _ k2 k5).1⟩
    · obtain ⟨c, b, y, k1, k2, k3, k4, k5⟩ := key i t hi
      have ho' : isOwned c = false := by
        simp only [ownedD, List.any_eq_false] at ho
        simpa using ho c (List.mem_of_getElem? k1)
      refine ⟨y, k4, ((view_ok R _ _ _ _ _ k2 k5).2 ho').weak fun q hq => hq.imp id fun ⟨h1, h2⟩ => ⟨?_, h2⟩⟩
      exact List.all_eq_true.1 h1 _ k3
  | tup => simp [viewD] at h

theorem unview_rep {w' : World} {F : Nat → Prop} {F' : Nat → Prop} {ρ' : Nat → Nat} {H' : Heap} {fr : Bool} (hF : ∀ b, Frs F' base fr b → F b) {r : TD} {y : Value} (h : RepTD w' F r y) : RepD w' base F' ρ' H' (unview fr r) y := by
  cases h with
  | one t y h => exact .one _ _ (rep_pC (.p fr t y (h.weak hF)))
  | agg ts ys h =>
    refine .agg _ _ ⟨by simpa using h.1, fun i c hi => ?_⟩
    simp only [List.getElem?_map, Option.map_eq_some_iff] at hi
    obtain ⟨t, t1, rfl⟩ := hi
    obtain ⟨y, y1, y2⟩ := h.2 i t t1
    exact ⟨y, y1, rep_pC (.p fr t y (y2.weak hF))⟩
theorem tup_rep {w' : World} {F : Nat → Prop} {ρ' : Nat → Nat} {H' : Heap} {ds : List D} {ys : List Value} (hl : ds.length = ys.length) (h : ∀ (i : Nat) d, ds[i]? = some d → ∃ y, ys[i]? = some y ∧ RepD w' base F ρ' H' d y) : RepD w' base F ρ' H' (.tup ds) (.tuple ys.toArray) :=
  .tup ds _ (fun i => ys.getD i .nilFunc) (by simpa using hl) (fun i d hi => by obtain ⟨y, y1, y2⟩ := h i d hi; simp [List.getD_eq_getElem?_getD, y1])
    (fun i d hi => by obtain ⟨y, y1, y2⟩ := h i d hi; simpa [List.getD_eq_getElem?_getD, y1] using y2)
theorem res_rep {w' : World} {F : Nat → Prop} {F' : Nat → Prop} {ρ' : Nat → Nat} {H' : Heap} {fr : Bool} (hF : ∀ b, Frs F' base fr b → F b) {rs : List TD} {y : Value} (h : RepRes w' F rs y) : RepD w' base F' ρ' H' (tupD (rs.map (unview fr))) y := by
  have hds : ∀ ys, RepTDs w' F rs ys → RepD w' base F' ρ' H' (.tup (rs.map (unview fr))) (.tuple ys.toArray) := fun ys h =>
    tup_rep (by simpa using h.1) fun i d hi => by
      simp only [List.getElem?_map, Option.map_eq_some_iff] at hi
      obtain ⟨t, t1, rfl⟩ := hi
      obtain ⟨y, y1, y2⟩ := h.2 i t t1
      exact ⟨y, y1, unview_rep hF y2⟩
  unfold RepRes at h
  split at h
  · exact unview_rep hF h
  · rename_i hne
    obtain ⟨ys, rfl, h⟩ := h
    have : tupD (rs.map (unview fr)) = .tup (rs.map (unview fr)) := by
      match rs, hne with
      | [], _ => rfl
      | [r], hne => exact absurd rfl (hne r)
      | r :: r2 :: l, _ => rfl
    rw [this]
    exact hds ys h
end

/-- A function with a body, as it is entered. -/
def Enters (P : Program) (k : FuncId) : Prop := ∃ fn c, P.funcs[k]? = some fn ∧ (fn.name == "runtime.NumGoroutine") = false ∧ fn.body = some c
theorem enter_run {P : Program} {k : FuncId} (h : Enters P k) (args : Array Value) (w : World) : (callFunc k args).run P w = .ok (.enter k args) w := by
  obtain ⟨fn, c, h1, h2, h3⟩ := h
  have h2' : ¬ fn.name = "runtime.NumGoroutine" := by simpa using h2
  simp [callFunc, program, Sem.run, h1, h2', h3]

section
variable {P : Program} {w : World} {base : Nat} {F0 : Nat → Prop} {ρ : Nat → Nat} {H : Heap}

/-- What a call of the text is: the function that is entered, and its arguments. -/
theorem resolve_ok {t : Tmp → Option D} {a : Act} {F : Nat → Prop} (T : RelG w base F ρ H t a) {c : Call} {k : FuncId} {args : List D} (h : resolveD c (opndG t) = some (k, args)) (hk : Enters P k) (ty : TypeId) :
    ∃ ys : List Value, (do let d ← resolve a.eval c ty; invoke d.target d.args : Sem Next).run P w = .ok (.enter k ys.toArray) w ∧ args.length = ys.length ∧ ∀ (i : Nat) d, args[i]? = some d → ∃ y, ys[i]? = some y ∧ RepD w base F ρ H d y := by
  unfold resolveD at h
  split at h
  · rename_i f hf
    simp only [Option.bind_eq_bind, Option.bind_eq_some_iff] at h
    obtain ⟨ds, h1, df, h2, h3⟩ := h
    obtain ⟨g1, g2⟩ := args_rep T _ _ h1
    have hfr := T.opnd h2
    have hmap : c.args.map a.eval = (c.args.toList.map a.eval).toArray := by apply Array.ext'; simp
    split at h3
    · rename_i fr q first cap
      split at h3
      · rename_i hz
        simp only [Option.some.injEq, Prod.mk.injEq] at h3
        obtain ⟨rfl, rfl⟩ := h3
        have hv := plain_rep (x := .func (.func q) first cap) hfr rfl
        have hz1 : first = #[] := Array.eq_empty_of_size_eq_zero hz.1
        have hz2 : cap = #[] := Array.eq_empty_of_size_eq_zero hz.2
        subst hz1 hz2
        refine ⟨c.args.toList.map a.eval, ?_, by simpa using g1, g2⟩
        have hr : (do let d ← resolve a.eval c ty; invoke d.target d.args : Sem Next) = callFunc q (c.args.map a.eval) := by
          unfold resolve
          rw [hf]
          simp only [hv]
          show callFunc q (#[] ++ c.args.map a.eval ++ #[]) = _
          simp
        rw [hr, hmap]
        exact enter_run hk _ w
      · simp at h3
    · rename_i q first cap
      simp only [Option.some.injEq, Prod.mk.injEq] at h3
      obtain ⟨rfl, rfl⟩ := h3
      generalize hv : a.eval f = vf at hfr
      cases hfr with
      | one cc y hc =>
        cases hc with
        | clo fn first cap v1 v2 y1 y2 l1 l2 e1 e2 r1 r2 =>
          refine ⟨v1.toList ++ c.args.toList.map a.eval ++ v2.toList, ?_, by simp [l1, l2, g1], fun i d hi => ?_⟩
          · have hr : (do let d ← resolve a.eval c ty; invoke d.target d.args : Sem Next) = callFunc q (v1 ++ c.args.map a.eval ++ v2) := by
              unfold resolve
              rw [hf]
              simp only [hv]
              rfl
            rw [hr, hmap]
            have : v1 ++ (c.args.toList.map a.eval).toArray ++ v2 = (v1.toList ++ c.args.toList.map a.eval ++ v2.toList).toArray := by apply Array.ext'; simp
            rw [this]
            exact enter_run hk _ w
          · have hl0 : (first.map D.one).length = v1.toList.length := by simp [l1]
            have hl1 : (first.map D.one ++ ds).length = (v1.toList ++ c.args.toList.map a.eval).length := by simp [l1, g1]
            rw [List.getElem?_append] at hi ⊢
            rw [hl1] at hi
            split at hi
            · rename_i hlt
              rw [if_pos hlt]
              rw [List.getElem?_append] at hi ⊢
              rw [hl0] at hi
              split at hi
              · rename_i hlt2
                rw [if_pos hlt2]
                simp only [List.getElem?_map, Option.map_eq_some_iff] at hi
                obtain ⟨cx, c1, rfl⟩ := hi
                exact ⟨y1 i, by rw [Array.getElem?_toList]; exact e1 i cx c1, .one _ _ (r1 i cx c1)⟩
              · rename_i hlt2
                rw [if_neg hlt2]
                exact g2 _ d hi
            · rename_i hlt
              rw [if_neg hlt]
              simp only [List.getElem?_map, Option.map_eq_some_iff] at hi
              obtain ⟨cx, c1, rfl⟩ := hi
              exact ⟨y2 _, by rw [Array.getElem?_toList]; exact e2 _ cx c1, .one _ _ (r2 _ cx c1)⟩
    · simp at h3
  · simp at h
end
end Ev
end Go.Proofs.YtjomjfjbpcafhaaDoor
