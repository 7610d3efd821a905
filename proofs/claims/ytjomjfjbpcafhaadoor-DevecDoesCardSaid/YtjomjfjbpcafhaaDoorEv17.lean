/- Rules to follow the evaluator through code over data that are not known. No program is named here. -/
import Derived.Test.YtjomjfjbpcafhaaDoorEv16
namespace Go.Proofs.YtjomjfjbpcafhaaDoor
namespace Ev
open Go Go.RowKit
set_option linter.unusedVariables false
set_option linter.unusedSimpArgs false

/-- The types and functions of a program, with what is known of some functions. -/
def tiOf (P : Program) (t : TypeId) : Option TI :=
  match P.info? t, P.underlying t with
  | some i, some d => match i.zero with
    | some z => if z.cells.toList.all one1 && z.cells.toList.length == i.size && decide (i.bytes ≤ 65536) then some { desc := d, zero := z.cells.toList, size := i.size, bytes := i.bytes } else none
    | none => none
  | _, _ => none
def fiOf (P : Program) (k : FuncId) : Option FI :=
  match P.funcs[k]? with
  | some f => match f.body with
    | some b => some { nt := f.ntmps, results := f.results.toList, body := b }
    | none => none
  | none => none
abbrev Ax := FuncId → Option (List TD → Option (Kind × List TD))
def envOf (P : Program) (ax : Ax) : Env := { P, ti := tiOf P, fn := fiOf P, ax }

theorem tiOf_ok (P : Program) : TiOk P (tiOf P) := by
  have key : ∀ t i, tiOf P t = some i → ∃ (o : TypeInfo) (z : Value), P.info? t = some o ∧ P.underlying t = some i.desc ∧ o.zero = some z ∧ z.cells.toList = i.zero ∧ o.size = i.size ∧ o.bytes = i.bytes ∧ (∀ x ∈ i.zero, x.oneCell' = true) ∧ i.zero.length = i.size ∧ i.bytes ≤ 65536 := by
    intro t i h
    unfold tiOf at h
    split at h
    · rename_i o d h1 h2
      split at h
      · rename_i z hz
        split at h
        · rename_i hc
          simp only [Option.some.injEq] at h
          subst h
          simp only [Bool.and_eq_true, List.all_eq_true, beq_iff_eq, decide_eq_true_eq] at hc
          exact ⟨o, z, h1, h2, hz, rfl, rfl, rfl, fun x hx => by rw [← one1_eq]; exact hc.1.1 x hx, hc.1.2, hc.2⟩
        · simp at h
      · simp at h
    · simp at h
  refine ⟨fun t i h => ?_, fun t i h => ?_, fun t i h => ?_⟩
  · obtain ⟨o, z, h1, h2, h3, h4, h5, h6, h7⟩ := key t i h; exact h2
  · obtain ⟨o, z, h1, h2, h3, h4, h5, h6, h7⟩ := key t i h; exact ⟨o, z, h1, h3, h4, h5, h6⟩
  · obtain ⟨o, z, h1, h2, h3, h4, h5, h6, h7⟩ := key t i h; exact h7
structure AxOk (P : Program) (ax : Ax) : Prop where
  ok : ∀ k F vs kind rs, ax k = some F → F vs = some (kind, rs) → PureOk P k vs kind rs ∧ Enters P k
/-- No function with a body has the name of the one that the model answers by itself. -/
def namesOk (P : Program) : Bool := P.funcs.toList.all fun f => !(f.name == "runtime.NumGoroutine")
theorem envOf_ok {P : Program} {ax : Ax} (hm : P.follows .mixedOrders = true) (hn : namesOk P = true) (ha : AxOk P ax) : (envOf P ax).Ok := by
  refine ⟨tiOf_ok P, hm, fun k f h => ?_, fun k F vs kind rs h1 h2 => ha.ok k F vs kind rs h1 h2⟩
  simp only [envOf, fiOf] at h
  split at h
  · rename_i fn hf
    split at h
    · rename_i b hb
      simp only [Option.some.injEq] at h
      subst h
      refine ⟨fn, hf, ?_, hb, rfl, rfl⟩
      have := List.all_eq_true.1 hn fn (by rw [Array.mem_toList_iff]; exact Array.mem_of_getElem? hf)
      simpa using this
    · simp at h
  · simp at h
theorem axOk_none (P : Program) : AxOk P fun _ => none := ⟨fun k F vs kind rs h => by simp at h⟩
def addAx (ax : Ax) (k : FuncId) (F : List TD → Option (Kind × List TD)) : Ax := fun j => if j = k then some F else ax j
theorem axOk_add {P : Program} {ax : Ax} (h : AxOk P ax) {k : FuncId} {F : List TD → Option (Kind × List TD)} (hF : ∀ vs kind rs, F vs = some (kind, rs) → PureOk P k vs kind rs ∧ Enters P k) : AxOk P (addAx ax k F) := by
  refine ⟨fun j G vs kind rs h1 h2 => ?_⟩
  unfold addAx at h1
  split at h1
  · rename_i hj
    simp only [Option.some.injEq] at h1
    subst h1 hj
    exact hF vs kind rs h2
  · exact h.ok j G vs kind rs h1 h2

section
variable {E : Env} {y : Nat → YldP} {n : Nat}

/-- What code comes to, with whatever many rounds of loops allowed beyond some. -/
def RunsC (E : Env) (y : Nat → YldP) (n : Nat) (c : Code) (s : St) (e : Ex) (s' : St) : Prop := ∃ M, ∀ m, M ≤ m → evC E (callersY E y m n).1 (callersY E y m n).2 m c s = some (e, s')
theorem callersY_fst (E : Env) (y : Nat → YldP) (m n : Nat) : (callersY E y m n).1 = (callers E m n).1 := rfl
abbrev nY : Nat → YldP := fun _ => noY
def WpC (E : Env) (y : Nat → YldP) (n : Nat) (c : Code) (Q : Ex → St → Prop) (s : St) : Prop := ∃ e s', RunsC E y n c s e s' ∧ Q e s'
def RunsP (E : Env) (n : Nat) (k : FuncId) (vs : List TD) (r : Kind × List TD) : Prop := ∃ M, ∀ m, M ≤ m → (callers E m n).1 k vs = some r

theorem WpC.mono {c : Code} {Q Q' : Ex → St → Prop} {s : St} (h : WpC E y n c Q s) (hq : ∀ e s, Q e s → Q' e s) : WpC E y n c Q' s := let ⟨e, s', h1, h2⟩ := h; ⟨e, s', h1, hq _ _ h2⟩
theorem wpc_skip {Q : Ex → St → Prop} {s : St} (h : Q .normal s) : WpC E y n .skip Q s := ⟨.normal, s, ⟨0, fun m _ => rfl⟩, h⟩
theorem wpc_ret {Q : Ex → St → Prop} {s : St} (h : Q .ret s) : WpC E y n .ret Q s := ⟨.ret, s, ⟨0, fun m _ => rfl⟩, h⟩
theorem wpc_exit {Q : Ex → St → Prop} {s : St} {id : Nat} (h : Q (.exit id) s) : WpC E y n (.exit id) Q s := ⟨.exit id, s, ⟨0, fun m _ => rfl⟩, h⟩
theorem wpc_label {Q : Ex → St → Prop} {s : St} {l : Nat} (h : Q .normal s) : WpC E y n (.label l) Q s := ⟨.normal, s, ⟨0, fun m _ => rfl⟩, h⟩
theorem wpc_scope {c : Code} {Q : Ex → St → Prop} {s : St} (h : WpC E y n c Q s) : WpC E y n (.scope c) Q s := let ⟨e, s', ⟨M, h1⟩, h2⟩ := h; ⟨e, s', ⟨M, fun m hm => by simpa [evC] using h1 m hm⟩, h2⟩
/-- What follows, if nothing left. -/
def thenQ (K : St → Prop) (Q : Ex → St → Prop) : Ex → St → Prop
  | .normal, s => K s
  | e, s => Q e s
theorem wpc_seq {a b : Code} {Q : Ex → St → Prop} {s : St} (h : WpC E y n a (thenQ (WpC E y n b Q) Q) s) : WpC E y n (.seq a b) Q s := by
  obtain ⟨e1, s1, ⟨M1, h1⟩, h2⟩ := h
  cases e1 with
  | normal =>
    obtain ⟨e2, s2, ⟨M2, h3⟩, h4⟩ := h2
    exact ⟨e2, s2, ⟨max M1 M2, fun m hm => by simp [evC, h1 m (by omega), h3 m (by omega)]⟩, h4⟩
  | exit id => exact ⟨_, s1, ⟨M1, fun m hm => by simp [evC, h1 m hm]⟩, h2⟩
  | ret => exact ⟨_, s1, ⟨M1, fun m hm => by simp [evC, h1 m hm]⟩, h2⟩
theorem wpc_cond {c : Operand} {a b : Code} {Q : Ex → St → Prop} {s : St} {t : Bool} {d : D} (h1 : opnd s.t c = some d) (h2 : asBool d = some t) (h : WpC E y n (if t then a else b) Q s) : WpC E y n (.cond c a b) Q s := by
  obtain ⟨e, s', ⟨M, h3⟩, h4⟩ := h
  refine ⟨e, s', ⟨M, fun m hm => ?_⟩, h4⟩
  have := h3 m hm
  cases t <;> simpa [evC, h1, h2] using this
theorem wpc_block {id : Nat} {c : Code} {Q : Ex → St → Prop} {s : St} (h : WpC E y n c (fun e s => Q (if e = .exit id then .normal else e) s) s) : WpC E y n (.block id c) Q s := by
  obtain ⟨e, s', ⟨M, h3⟩, h4⟩ := h
  exact ⟨_, s', ⟨M, fun m hm => by simp [evC, h3 m hm]⟩, h4⟩
theorem wpc_loop {c : Code} {Q : Ex → St → Prop} (I : St → Prop) (μ : St → Nat) (hI : ∀ s, I s → WpC E y n c (thenQ (fun s' => I s' ∧ μ s' < μ s) Q) s) : ∀ s, I s → WpC E y n (.loop c) Q s := by
  have key : ∀ k s, μ s = k → I s → ∃ e s', (∃ M, ∀ m, M ≤ m → ∀ q, M ≤ q → evLoop (evC E (callersY E y m n).1 (callersY E y m n).2 m c) q s = some (e, s')) ∧ Q e s' := by
    intro k
    induction k using Nat.strongRecOn with
    | _ k ih =>
      intro s hk hs
      obtain ⟨e1, s1, ⟨M1, h1⟩, h2⟩ := hI s hs
      cases e1 with
      | normal =>
        obtain ⟨h3, h4⟩ := h2
        obtain ⟨e2, s2, ⟨M2, h5⟩, h6⟩ := ih (μ s1) (by omega) s1 rfl h3
        refine ⟨e2, s2, ⟨max M1 M2 + 1, fun m hm q hq => ?_⟩, h6⟩
        match q, hq with
        | q + 1, hq => simp [evLoop, h1 m (by omega), h5 m (by omega) q (by omega)]
      | exit id =>
        refine ⟨_, s1, ⟨M1 + 1, fun m hm q hq => ?_⟩, h2⟩
        match q, hq with
        | q + 1, hq => simp [evLoop, h1 m (by omega)]
      | ret =>
        refine ⟨_, s1, ⟨M1 + 1, fun m hm q hq => ?_⟩, h2⟩
        match q, hq with
        | q + 1, hq => simp [evLoop, h1 m (by omega)]
  intro s hs
  obtain ⟨e, s', ⟨M, h1⟩, h2⟩ := key _ s rfl hs
  exact ⟨e, s', ⟨M, fun m hm => by simpa [evC] using h1 m hm m hm⟩, h2⟩
theorem runsP_unique {k : FuncId} {vs : List TD} {r r' : Kind × List TD} (h : RunsP E n k vs r) (h' : RunsP E n k vs r') : r = r' := by
  obtain ⟨M, hM⟩ := h
  obtain ⟨M', hM'⟩ := h'
  have h1 := hM (max M M') (by omega)
  rw [hM' (max M M') (by omega)] at h1
  exact (Option.some.inj h1).symm
open Classical in
/-- What calls come to in the end. -/
noncomputable def cpR (E : Env) (n : Nat) : CallP := fun k vs => if h : ∃ r, RunsP E n k vs r then some h.choose else none
theorem cpR_eq {k : FuncId} {vs : List TD} {r : Kind × List TD} (h : RunsP E n k vs r) : cpR E n k vs = some r := by
  have hx : ∃ r, RunsP E n k vs r := ⟨r, h⟩
  unfold cpR
  rw [dif_pos hx]
  exact congrArg some (runsP_unique hx.choose_spec h)
theorem cpR_runs {k : FuncId} {vs : List TD} {r : Kind × List TD} (h : cpR E n k vs = some r) : RunsP E n k vs r := by
  unfold cpR at h
  split at h
  · rename_i hx
    simp only [Option.some.injEq] at h
    rw [← h]; exact hx.choose_spec
  · simp at h
theorem runsP_ax {k : FuncId} {vs : List TD} {r : Kind × List TD} {F : List TD → Option (Kind × List TD)} (h1 : E.ax k = some F) (h2 : F vs = some r) : RunsP E (n + 1) k vs r := ⟨0, fun m _ => by simp only [callers, callersY, callersN, h1]; exact h2⟩
def cfN : CallG := ⟨fun _ _ _ => none, fun _ _ _ _ => none, noY⟩
theorem step_evt {ops : Array Oper} {nid : Nat} {o : Oper} {g : Tmp → Option D} {H : Heap} {e : Eff} (hs : step E (cpR E n) ops nid o g H = some e) : ∃ M, ∀ m, M ≤ m → step E (callers E m n).1 ops nid o g H = some e := by
  unfold step at *
  simp only [Option.bind_eq_bind, Option.bind_eq_some_iff] at hs ⊢
  obtain ⟨b, h1, h2⟩ := hs
  split at h2
  · rename_i hb
    split at h2
    · unfold pcall at h2
      simp only [Option.bind_eq_bind, Option.bind_eq_some_iff] at h2
      obtain ⟨x, h3, vs, h4, y, h5, h6⟩ := h2
      obtain ⟨M, hM⟩ := cpR_runs h5
      refine ⟨M, fun m hm => ⟨b, h1, ?_⟩⟩
      rw [if_pos hb]
      unfold pcall
      simp only [Option.bind_eq_bind, Option.bind_eq_some_iff]
      exact ⟨x, h3, vs, h4, y, hM m hm, h6⟩
    · exact ⟨0, fun m _ => ⟨b, h1, by rw [if_pos hb]; exact h2⟩⟩
  · rename_i hb
    exact ⟨0, fun m _ => ⟨b, h1, by rw [if_neg hb]; exact h2⟩⟩
theorem evOps_evt {ops : Array Oper} : ∀ (l : List Oper) (s s' : St), evOps E (cpR E n) cfN ops l s = some s' → ∃ M, ∀ m, M ≤ m → evOps E (callersY E y m n).1 (callersY E y m n).2 ops l s = some s'
  | [], s, s', hs => ⟨0, fun m _ => hs⟩
  | o :: l, s, s', hs => by
    simp only [evOps, Option.bind_eq_bind, Option.bind_eq_some_iff] at hs
    obtain ⟨s1, h1, h2⟩ := hs
    obtain ⟨M2, hM2⟩ := evOps_evt l s1 s' h2
    unfold evOp at h1
    split at h1
    · rename_i e he
      obtain ⟨M1, hM1⟩ := step_evt he
      refine ⟨max M1 M2, fun m hm => ?_⟩
      simp only [evOps, Option.bind_eq_bind, Option.bind_eq_some_iff]
      refine ⟨s1, ?_, hM2 m (by omega)⟩
      unfold evOp
      rw [callersY_fst, hM1 m (by omega)]
      exact h1
    · rw [Option.or_eq_some_iff] at h1
      rcases h1 with h1 | ⟨_, h1⟩
      · unfold scall cfN at h1
        simp only [Option.bind_eq_bind, Option.bind_eq_some_iff] at h1
        obtain ⟨b, h3, h4⟩ := h1
        split at h4
        · split at h4
          · simp at h4
          · simp at h4
        · simp at h4
      · unfold ycall cfN at h1
        simp only [Option.bind_eq_bind, Option.bind_eq_some_iff] at h1
        obtain ⟨b, h3, h4⟩ := h1
        split at h4
        · split at h4
          · split at h4
            · simp only [Option.bind_eq_some_iff] at h4
              obtain ⟨as, _, df, _, h5⟩ := h4
              split at h5
              · simp only [Option.bind_eq_some_iff] at h5
                obtain ⟨⟨sz, es⟩, _, h6⟩ := h5
                split at h6
                · simp [noY] at h6
                · simp at h6
              · simp at h5
            · simp at h4
          · simp at h4
        · simp at h4
theorem evDraw2_evt {ops : Array Oper} : ∀ (b : Nat) (U M : Nat → List Nat) (l : List Oper) (i : Nat) (s s' : St), evDraw2 E (cpR E n) ops b U M i l s = some s' → ∃ K, ∀ m, K ≤ m → evDraw2 E (callers E m n).1 ops b U M i l s = some s' := by
  intro b U M l
  induction l with
  | nil => intro i s r hr; exact ⟨0, fun _ _ => hr⟩
  | cons o l ih =>
    intro i s r hr
    simp only [evDraw2, Option.bind_eq_bind, Option.bind_eq_some_iff] at hr ⊢
    obtain ⟨e, g1, g2⟩ := hr
    obtain ⟨M1, hM1⟩ := step_evt g1
    split at g2
    · rename_i hc
      simp only [Option.bind_eq_some_iff] at g2 ⊢
      obtain ⟨s1, g3, g4⟩ := g2
      obtain ⟨M2, hM2⟩ := ih _ _ _ g4
      refine ⟨max M1 M2, fun m hm => ⟨e, hM1 m (by omega), ?_⟩⟩
      rw [if_pos hc]
      simp only [Option.bind_eq_some_iff]
      exact ⟨s1, g3, hM2 m (by omega)⟩
    · simp at g2
theorem evDraw_evt {ops : Array Oper} {s s' : St} (hs : evDraw E (cpR E n) ops s = some s') : ∃ M, ∀ m, M ≤ m → evDraw E (callers E m n).1 ops s = some s' := by
  have h1 : ∀ (b : Nat) (l : List Oper) (i : Nat) (s : St) (r : List (List Nat)), evDraw1 E (cpR E n) ops b i l s = some r → ∃ M, ∀ m, M ≤ m → evDraw1 E (callers E m n).1 ops b i l s = some r := by
    intro b l
    induction l with
    | nil => intro i s r hr; exact ⟨0, fun _ _ => hr⟩
    | cons o l ih =>
      intro i s r hr
      simp only [evDraw1, Option.bind_eq_bind, Option.bind_eq_some_iff] at hr ⊢
      obtain ⟨e, g1, s1, g2, l1, g3, g4⟩ := hr
      obtain ⟨M1, hM1⟩ := step_evt g1
      obtain ⟨M2, hM2⟩ := ih _ _ _ g3
      exact ⟨max M1 M2, fun m hm => ⟨e, hM1 m (by omega), s1, g2, l1, hM2 m (by omega), g4⟩⟩
  have h2 := @evDraw2_evt E n ops
  unfold evDraw at hs
  simp only [Option.bind_eq_bind, Option.bind_eq_some_iff] at hs
  obtain ⟨U0, g1, g2⟩ := hs
  obtain ⟨M1, hM1⟩ := h1 _ _ _ _ _ g1
  split at g2
  · rename_i hc
    obtain ⟨M2, hM2⟩ := h2 _ _ _ _ _ _ _ g2
    refine ⟨max M1 M2, fun m hm => ?_⟩
    unfold evDraw
    simp only [Option.bind_eq_bind, Option.bind_eq_some_iff]
    refine ⟨U0, hM1 m (by omega), ?_⟩
    rw [if_pos hc]
    exact hM2 m (by omega)
  · simp at g2

/-- What holds of what there is. -/
def holdsQ {α : Type} (Q : α → Prop) : Option α → Prop
  | some a => Q a
  | none => False
theorem wpc_region {id : Nat} {ops : Array Oper} {Q : Ex → St → Prop} {s : St} (h : holdsQ (Q .normal) (evOps E (cpR E n) cfN ops ops.toList s)) : WpC E y n (.region id ops false) Q s := by
  cases hs : evOps E (cpR E n) cfN ops ops.toList s with
  | none => rw [hs] at h; exact h.elim
  | some s' =>
    rw [hs] at h
    obtain ⟨M, hM⟩ := evOps_evt _ _ _ hs
    exact ⟨.normal, s', ⟨M, fun m hm => by simp only [evC, Bool.false_eq_true, if_false]; rw [hM m hm]; rfl⟩, h⟩
theorem wpc_draw {id : Nat} {ops : Array Oper} {Q : Ex → St → Prop} {s : St} (hc : cutAt ops = none) (h : holdsQ (Q .normal) (evDraw E (cpR E n) ops s)) : WpC E y n (.region id ops true) Q s := by
  cases hs : evDraw E (cpR E n) ops s with
  | none => rw [hs] at h; exact h.elim
  | some s' =>
    rw [hs] at h
    obtain ⟨M, hM⟩ := evDraw_evt hs
    exact ⟨.normal, s', ⟨M, fun m hm => by simp only [evC, if_true, hc]; rw [callersY_fst, hM m hm]; rfl⟩, h⟩
def condQ (A B : Prop) : Option Bool → Prop
  | some t => (t = true → A) ∧ (t = false → B)
  | none => False
theorem wpc_if {c : Operand} {a b : Code} {Q : Ex → St → Prop} {s : St} (h : condQ (WpC E y n a Q s) (WpC E y n b Q s) ((opnd s.t c).bind asBool)) : WpC E y n (.cond c a b) Q s := by
  cases hd : opnd s.t c with
  | none => rw [hd] at h; exact h.elim
  | some d =>
    rw [hd] at h
    cases ht : asBool d with
    | none => simp only [Option.bind_some, ht] at h; exact h.elim
    | some t =>
      simp only [Option.bind_some, ht] at h
      refine wpc_cond hd ht ?_
      cases t
      · exact h.2 rfl
      · exact h.1 rfl
/-- What is handed back. -/
def endQ (E : Env) (rv : List ResultVar) (r : Kind × List TD) : Ex → St → Prop
  | .exit _, _ => False
  | _, s => holdsQ (fun l : Kind × List TD => l = r) ((rv.mapM (resultD E s)).bind fun rs => (rs.mapM (viewD s.h)).map fun l => (if ownRes s.h rs then .own else if l.all (·.1) then .fresh else .any, l.map (·.2)))
theorem endQ_out {rv : List ResultVar} {r : Kind × List TD} {e : Ex} {s : St} (h : endQ E rv r e s) : (e = .normal ∨ e = .ret) ∧ ∃ rs l, rv.mapM (resultD E s) = some rs ∧ rs.mapM (viewD s.h) = some l ∧ (if ownRes s.h rs then Kind.own else if l.all (·.1) then .fresh else .any, l.map (·.2)) = r := by
  have key : holdsQ (fun l : Kind × List TD => l = r) ((rv.mapM (resultD E s)).bind fun rs => (rs.mapM (viewD s.h)).map fun l => (if ownRes s.h rs then .own else if l.all (·.1) then .fresh else .any, l.map (·.2))) → ∃ rs l, rv.mapM (resultD E s) = some rs ∧ rs.mapM (viewD s.h) = some l ∧ (if ownRes s.h rs then Kind.own else if l.all (·.1) then .fresh else .any, l.map (·.2)) = r := by
    intro h
    cases h1 : rv.mapM (resultD E s) with
    | none => rw [h1] at h; exact h.elim
    | some rs =>
      rw [h1] at h
      simp only [Option.bind_some] at h
      cases h2 : rs.mapM (viewD s.h) with
      | none => rw [h2] at h; exact h.elim
      | some l => rw [h2] at h; exact ⟨rs, l, rfl, h2, h⟩
  cases e with
  | normal => exact ⟨.inl rfl, key h⟩
  | ret => exact ⟨.inr rfl, key h⟩
  | exit id => exact h.elim
/-- A function's call, out of its code. -/
theorem runs_fn {k : FuncId} {f : FI} {vs : List TD} {r : Kind × List TD} (ha : E.ax k = none) (hf : E.fn k = some f)
    (h : WpC E nY n f.body (endQ E f.results r) { t := vs.map (unview false) ++ List.replicate (f.nt - vs.length) undefD, h := [] }) : RunsP E (n + 1) k vs r := by
  obtain ⟨e, s', ⟨M, h1⟩, h2⟩ := h
  obtain ⟨h2, rs, l, h3, h4, h5⟩ := endQ_out h2
  refine ⟨M, fun m hm => ?_⟩
  have := h1 m hm
  simp only [callers, callersY] at this
  simp only [callers, callersY, callersN, ha, hf, Option.bind_eq_bind, Option.bind_some, pureFn, evFn, List.length_map]
  rw [this]
  rcases h2 with rfl | rfl <;> simp [h3, h4, ← h5]
theorem RunsP.pure (hO : E.Ok) {k : FuncId} {vs : List TD} {kind : Kind} {rs : List TD} (h : RunsP E n k vs (kind, rs)) : PureOk E.P k vs kind rs := let ⟨M, hM⟩ := h; found hO (hM M (Nat.le_refl _))
end
end Ev
end Go.Proofs.YtjomjfjbpcafhaaDoor
