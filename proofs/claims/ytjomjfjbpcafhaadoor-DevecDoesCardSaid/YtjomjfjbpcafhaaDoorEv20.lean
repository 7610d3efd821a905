/- The slots of a call as a function of their numbers. No program is named here. -/
import Derived.Test.YtjomjfjbpcafhaaDoorEv19
namespace Go.Proofs.YtjomjfjbpcafhaaDoor
namespace Ev
open Go Go.RowKit
set_option linter.unusedVariables false
set_option linter.unusedSimpArgs false

def tab (n : Nat) (f : Nat → D) : List D := (List.range n).map f
def upd (f : Nat → D) (d : Nat) (v : D) : Nat → D := fun i => if i = d then v else f i
theorem upd_at (f : Nat → D) (d : Nat) (v : D) (i : Nat) : upd f d v i = if i = d then v else f i := rfl
theorem tab_len (n : Nat) (f : Nat → D) : (tab n f).length = n := by simp [tab]
theorem tab_get (n : Nat) (f : Nat → D) (i : Nat) : (tab n f)[i]? = if i < n then some (f i) else none := by
  unfold tab
  rw [List.getElem?_map]
  by_cases h : i < n
  · rw [List.getElem?_range h, if_pos h]; rfl
  · rw [List.getElem?_eq_none (by simpa using h), if_neg h]; rfl
theorem tab_set (n : Nat) (f : Nat → D) (d : Nat) (v : D) : (tab n f).set d v = tab n (upd f d v) := by
  refine List.ext_getElem? fun i => ?_
  rw [List.getElem?_set, tab_get, tab_get, tab_len, upd_at]
  by_cases h : d = i
  · subst h
    by_cases hn : d < n
    · rw [if_pos rfl, if_pos hn, if_pos hn, if_pos rfl]
    · rw [if_pos rfl, if_neg hn, if_neg hn]
  · rw [if_neg h, if_neg (fun e : i = d => h e.symm)]
theorem tab_of (t : List D) : t = tab t.length fun i => t.getD i undefD := by
  refine List.ext_getElem? fun i => ?_
  rw [tab_get, List.getD_eq_getElem?_getD]
  by_cases h : i < t.length
  · rw [if_pos h, List.getElem?_eq_getElem h]; rfl
  · rw [if_neg h, List.getElem?_eq_none (by omega)]
section
variable {E : Env} {y : Nat → YldP} {n : Nat}
theorem runs_tab {k : FuncId} {f : FI} {vs : List TD} {r : Kind × List TD} (ha : E.ax k = none) (hf : E.fn k = some f) (hl : vs.length ≤ f.nt)
    (h : WpC E nY n f.body (endQ E f.results r) { t := tab f.nt fun i => (vs.map (unview false)).getD i undefD, h := [] }) : RunsP E (n + 1) k vs r := by
  refine runs_fn ha hf ?_
  have e : vs.map (unview false) ++ List.replicate (f.nt - vs.length) undefD = tab f.nt fun i => (vs.map (unview false)).getD i undefD := by
    rw [tab_of (vs.map (unview false) ++ List.replicate (f.nt - vs.length) undefD)]
    have hlen : (vs.map (unview false) ++ List.replicate (f.nt - vs.length) undefD).length = f.nt := by simp; omega
    rw [hlen]
    unfold tab
    congr 1
    funext i
    rw [List.getD_eq_getElem?_getD, List.getD_eq_getElem?_getD]
    by_cases hi : i < (vs.map (unview false)).length
    · rw [List.getElem?_append_left hi]
    · rw [List.getElem?_append_right (by omega), List.getElem?_replicate, List.getElem?_eq_none (show (vs.map (unview false)).length ≤ i by omega)]
      split <;> rfl
  rw [e]; exact h
end

/-! An operation looks at its own slots only. -/
theorem mapM_same {α β : Type} {f g : α → Option β} : ∀ {l : List α}, (∀ x ∈ l, f x = g x) → l.mapM f = l.mapM g
  | [], _ => rfl
  | x :: l, h => by rw [List.mapM_cons, List.mapM_cons, h x List.mem_cons_self, mapM_same fun y hy => h y (List.mem_cons_of_mem _ hy)]
theorem sem_same {E : Env} {nid : Nat} {o : Oper} {ρ ρ' : Operand → Option D} {H : Heap} (h : ∀ x ∈ o.op.operands.toList, ρ x = ρ' x) : sem E nid o ρ H = sem E nid o ρ' H := by
  unfold sem
  cases ho : o.op with
  | move x => simp only [h x (by simp [ho, Op.operands])]
  | assign x => simp only [h x (by simp [ho, Op.operands])]
  | pick c a b => simp only [h c (by simp [ho, Op.operands]), h a (by simp [ho, Op.operands]), h b (by simp [ho, Op.operands])]
  | alloc e => rfl
  | box e x => simp only [h x (by simp [ho, Op.operands])]
  | build ty parts =>
    have : (parts.toList.mapM fun (i, x) => (ρ x).map fun d => (i, d)) = parts.toList.mapM fun (i, x) => (ρ' x).map fun d => (i, d) := mapM_same fun x hx => by
      show (ρ x.2).map _ = (ρ' x.2).map _
      rw [h x.2 (by simp [ho, Op.operands]; exact ⟨x.1, by simpa using hx⟩)]
    simp only [this]
  | buildSlice ty len parts =>
    have : (parts.toList.mapM fun (i, x) => (ρ x).map fun d => (i, d)) = parts.toList.mapM fun (i, x) => (ρ' x).map fun d => (i, d) := mapM_same fun x hx => by
      show (ρ x.2).map _ = (ρ' x.2).map _
      rw [h x.2 (by simp [ho, Op.operands]; exact ⟨x.1, by simpa using hx⟩)]
    simp only [this]
  | load ty a => simp only [h a (by simp [ho, Op.operands])]
  | store ty a x => simp only [h a (by simp [ho, Op.operands]), h x (by simp [ho, Op.operands])]
  | binOp op ty x y sh => simp only [h x (by simp [ho, Op.operands]), h y (by simp [ho, Op.operands])]
  | unOp op ty x => simp only [h x (by simp [ho, Op.operands])]
  | convert src dst x => simp only [h x (by simp [ho, Op.operands])]
  | makeFunc fn first cap =>
    have h1 : ∀ x ∈ first.toList, ρ x = ρ' x := fun x hx => h x (by simp [ho, Op.operands]; simp at hx; simp [hx])
    have h2 : ∀ x ∈ cap.toList, ρ x = ρ' x := fun x hx => h x (by simp [ho, Op.operands]; simp at hx; simp [hx])
    have e1 := mapM_same (g := fun x => (ρ' x).bind fun d => match d with | .one c => some c | _ => none) (fun x hx => congrArg (fun y => Option.bind y fun d => match d with | .one c => some c | _ => none) (h1 x hx))
    have e2 := mapM_same (g := fun x => (ρ' x).bind fun d => match d with | .one c => some c | _ => none) (fun x hx => congrArg (fun y => Option.bind y fun d => match d with | .one c => some c | _ => none) (h2 x hx))
    have key : ∀ {a b a' b' : Option (List C)}, a = a' → b = b' → (a.bind fun f => b.bind fun g => some ({ v := .one (.clo fn f g) } : Eff)) = a'.bind fun f => b'.bind fun g => some { v := .one (.clo fn f g) } := fun h1 h2 => by rw [h1, h2]
    exact key e1 e2
  | makeSlice ty l c => simp only [h l (by simp [ho, Op.operands]), h c (by simp [ho, Op.operands])]
  | slice ty x lo hi mx =>
    have h1 : ∀ d, natOr ρ hi d = natOr ρ' hi d := fun d => by cases hi with | none => rfl | some y => simp only [natOr]; rw [h y (by simp [ho, Op.operands])]
    have h2 : ∀ d, natOr ρ lo d = natOr ρ' lo d := fun d => by cases lo with | none => rfl | some y => simp only [natOr]; rw [h y (by simp [ho, Op.operands])]
    simp only [h x (by simp [ho, Op.operands]), h1, h2]
  | fieldAddr ty x f => simp only [h x (by simp [ho, Op.operands])]
  | field ty x f => simp only [h x (by simp [ho, Op.operands])]
  | indexAddr ty x ix => simp only [h x (by simp [ho, Op.operands]), h ix (by simp [ho, Op.operands])]
  | index ty x ix => simp only [h x (by simp [ho, Op.operands]), h ix (by simp [ho, Op.operands])]
  | extract tp ix => simp only [h tp (by simp [ho, Op.operands])]
  | call c =>
    cases hc : c.callee with
    | builtin b =>
      have h1 : c.args.toList.mapM ρ = c.args.toList.mapM ρ' := mapM_same fun x hx => h x (by simp [ho, Op.operands, Call.operands, hc]; simpa using hx)
      simp only [h1]
    | _ => simp only [hc]
  | _ => rfl
theorem step_same {E : Env} {cp : CallP} {ops : Array Oper} {nid : Nat} {o : Oper} {t : List D} {H : Heap} : step E cp ops nid o (only (looks ops o) t) H = step E cp ops nid o (slots t) H := by
  have hl : ∀ x ∈ o.op.operands.toList, opndG (only (looks ops o) t) x = opndG (slots t) x := fun x hx => by
    cases x with
    | tmp i =>
      have : i ∈ looks ops o := by
        unfold looks
        rw [List.mem_append]
        exact .inl (List.mem_filterMap.2 ⟨.tmp i, hx, rfl⟩)
      simp [opndG, only, this]
    | _ => rfl
  have hw : wantedD ops (only (looks ops o) t) o = wantedD ops (slots t) o := by
    unfold wantedD
    cases hg : o.guard with
    | none => rfl
    | some p =>
      obtain ⟨j, want⟩ := p
      simp only
      cases hj : ops[j]? with
      | none => rfl
      | some g =>
        cases hd : g.dst with
        | none => simp [hd]
        | some d =>
          have : d ∈ looks ops o := by
            unfold looks
            rw [List.mem_append]
            refine .inr ?_
            simp only [hg, hj, Option.bind_some, hd]
            simp
          simp [hd, only, this]
  unfold step
  rw [hw]
  congr 1
  funext b
  split
  · cases hc : isCall o.op with
    | none => exact sem_same hl
    | some c =>
      have ho : o.op = .call c := by
        unfold isCall at hc
        split at hc
        · rename_i c' ho
          split at hc
          · simp at hc
          · simp only [Option.some.injEq] at hc; subst hc; exact ho
        · simp at hc
      have hr : resolveD c (opndG (only (looks ops o) t)) = resolveD c (opndG (slots t)) := by
        unfold resolveD
        cases hcc : c.callee with
        | value f =>
          have h1 : c.args.toList.mapM (opndG (only (looks ops o) t)) = c.args.toList.mapM (opndG (slots t)) := mapM_same fun x hx => hl x (by simp [ho, Op.operands, Call.operands, hcc]; simp at hx; simp [hx])
          simp only [h1, hl f (by simp [ho, Op.operands, Call.operands, hcc])]
        | _ => rfl
      have hp : pcall cp nid c (only (looks ops o) t) H = pcall cp nid c (slots t) H := by
        unfold pcall
        simp only [hr]
      exact hp
  · rfl
/-- A pass over operations that turn no block. -/
def evR (E : Env) (cp : CallP) (ops : Array Oper) (H : Heap) (b : Nat) : Nat → List Oper → List D → Option (List D)
  | _, [], t => some t
  | i, o :: r, t => do
    let e ← step E cp ops (b + i) o (slots t) H
    if e.upd.isEmpty then evR E cp ops H b (i + 1) r (← setT t o.dst e.v) else none
theorem evR_eq {E : Env} {cp : CallP} {ops : Array Oper} {H : Heap} {b : Nat} : ∀ (l : List Oper) (i : Nat) (t : List D), evR E cp ops H b i l t = evQ E cp ops H b i l t
  | [], _, _ => rfl
  | o :: l, i, t => by
    simp only [evR, evQ, step_same]
    congr 1
    funext e
    split
    · congr 1
      funext t'
      exact evR_eq l (i + 1) t'
    · rfl
def evW (E : Env) (cp : CallP) (ops : Array Oper) (b : Nat) (U M : Nat → List Nat) : Nat → List Oper → St → Option St
  | _, [], s => some s
  | i, o :: r, s => do
    let e ← step E cp ops (b + i) o (slots s.t) (mask s.h (M i))
    if ids e = U i ∧ (U i).all (· < s.h.length) = true then evW E cp ops b U M (i + 1) r (← put o s e) else none
theorem evW_eq {E : Env} {cp : CallP} {ops : Array Oper} {b : Nat} {U M : Nat → List Nat} : ∀ (l : List Oper) (i : Nat) (s : St), evW E cp ops b U M i l s = evDraw2 E cp ops b U M i l s
  | [], _, _ => rfl
  | o :: l, i, s => by
    simp only [evW, evDraw2, step_same]
    congr 1
    funext e
    split
    · congr 1
      funext s1
      exact evW_eq l (i + 1) s1
    · rfl
section
variable {E : Env} {y : Nat → YldP} {n : Nat}
theorem wpc_still {id : Nat} {ops : Array Oper} {Q : Ex → St → Prop} {t : List D} {h : Heap} (hq : drawOkQ ops = true) (hh : ∀ h', h'.length = h.length + ops.size → (∀ k, getBlk h' k = getBlk h k) → holdsQ (fun t => Q .normal { t, h := h' }) (evR E (cpR E n) ops h' h.length 0 ops.toList t)) : WpC E y n (.region id ops true) Q { t, h } := by
  refine wpc_quiet hq ?_
  rw [← evR_eq]
  exact hh _ (by simp) fun k => getBlk_pad _ _ _
theorem wpc_turn {id : Nat} {ops : Array Oper} {Q : Ex → St → Prop} {t : List D} {h : Heap} (O : List (List Nat)) (N : List (Bool × List Nat)) (R : List (List Nat)) (hq : drawOkQ ops = true) (hn : newOk ops N = true) (hR : openTo ops = R) (hO : DJ O R O) (hb : ∀ l ∈ O, ∀ k ∈ l, k < h.length)
    (hh : ∀ h', h'.length = h.length + ops.size → (∀ k, getBlk h' k = getBlk h k) → holdsQ (Q .normal) (evW E (cpR E n) ops h.length (turnsOf h.length O N) (fun i => (R.getD i []).flatMap (turnsOf h.length O N)) 0 ops.toList { t, h := h' })) : WpC E y n (.region id ops true) Q { t, h } := by
  refine wpc_drawW O N R hq hn hR hO hb ?_
  rw [← evW_eq]
  exact hh _ (by simp) fun k => getBlk_pad _ _ _
end
end Ev
end Go.Proofs.YtjomjfjbpcafhaaDoor
