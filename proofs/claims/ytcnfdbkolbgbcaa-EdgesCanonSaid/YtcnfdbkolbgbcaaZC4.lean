/- Texts of a claim, joined. -/
import Derived.Test.YtcnfdbkolbgbcaaZC3
import Derived.Laws.StructEq
set_option linter.unusedVariables false
set_option linter.unusedSimpArgs false
section
namespace Go.Proofs.Ytcnfdbkolbgbcaa
namespace Ev
open Go Go.RowKit
set_option linter.unusedVariables false
set_option linter.unusedSimpArgs false
def tab (n : Nat) (f : Nat → D) : List D := (List.range n).map f
def upd (f : Nat → D) (d : Nat) (v : D) : Nat → D := fun i => if i = d then v else f i
theorem upd_at (f : Nat → D) (d : Nat) (v : D) (i : Nat) : upd f d v i = if i = d then v else f i := rfl
theorem tab_len (n : Nat) (f : Nat → D) : (tab n f).length = n := by simp [tab]
theorem tab_get (n : Nat) (f : Nat → D) (i : Nat) : (tab n f)[i]? = if i < n then some (f i) else none := by
 unfold tab
 rw [List.getElem?_map]
 by_cases h : i < n
 ·rw [List.getElem?_range h, if_pos h]; rfl
 ·rw [List.getElem?_eq_none (by simpa using h), if_neg h]; rfl
theorem tab_set (n : Nat) (f : Nat → D) (d : Nat) (v : D) : (tab n f).set d v = tab n (upd f d v) := by
 refine List.ext_getElem? fun i => ?_
 rw [List.getElem?_set, tab_get, tab_get, tab_len, upd_at]
 by_cases h : d = i
 ·subst h
  by_cases hn : d < n
  ·rw [if_pos rfl, if_pos hn, if_pos hn, if_pos rfl]
  ·rw [if_pos rfl, if_neg hn, if_neg hn]
 ·rw [if_neg h, if_neg (fun e : i = d => h e.symm)]
theorem tab_of (t : List D) : t = tab t.length fun i => t.getD i undefD := by
 refine List.ext_getElem? fun i => ?_
 rw [tab_get, List.getD_eq_getElem?_getD]
 by_cases h : i < t.length
 ·rw [if_pos h, List.getElem?_eq_getElem h]; rfl
 ·rw [if_neg h, List.getElem?_eq_none (by omega)]
section
variable {E : Env} {y : Nat → YldP} {n : Nat}
theorem runs_tab {k : FuncId} {f : FI} {vs : List TD} {r : Kind × List TD} (ha : E.ax k = none) (hf : E.fn k = some f) (hl : vs.length ≤ f.nt)
  (h : WpC E nY n f.body (endQ E f.results r) { t := tab f.nt fun i => (vs.map (unview false)).getD i undefD, h := [] }) : RunsP E (n + 1) k vs r := by
 refine runs_fn ha hf ?_
 have e : vs.map (unview false) ++ List.replicate (f.nt - vs.length) undefD = tab f.nt fun i => (vs.map (unview false)).getD i undefD := by
  rw [tab_of (vs.map (unview false) ++ List.replicate (f.nt - vs.length) undefD)]
  have hlen : (vs.map (unview false) ++ List.replicate (f.nt - vs.length) undefD).length = f.nt := by simp; omega
  rw [hlen]
  unfold tab
  congr 1
  funext i
  rw [List.getD_eq_getElem?_getD, List.getD_eq_getElem?_getD]
  by_cases hi : i < (vs.map (unview false)).length
  ·rw [List.getElem?_append_left hi]
  ·rw [List.getElem?_append_right (by omega), List.getElem?_replicate, List.getElem?_eq_none (show (vs.map (unview false)).length ≤ i by omega)]
   split <;> rfl
 rw [e]; exact h
end
theorem mapM_same {α β : Type} {f g : α → Option β} : ∀ {l : List α}, (∀ x ∈ l, f x = g x) → l.mapM f = l.mapM g
 | [], _ => rfl
 | x :: l, h => by rw [List.mapM_cons, List.mapM_cons, h x List.mem_cons_self, mapM_same fun y hy => h y (List.mem_cons_of_mem _ hy)]
theorem sem_same {E : Env} {nid : Nat} {o : Oper} {ρ ρ' : Operand → Option D} {H : Heap} (h : ∀ x ∈ o.op.operands.toList, ρ x = ρ' x) : sem E nid o ρ H = sem E nid o ρ' H := by
 unfold sem
 cases ho : o.op with
 | move x => simp only [h x (by simp [ho, Op.operands])]
 | assign x => simp only [h x (by simp [ho, Op.operands])]
 | pick c a b => simp only [h c (by simp [ho, Op.operands]), h a (by simp [ho, Op.operands]), h b (by simp [ho, Op.operands])]
 | alloc e => rfl
 | box e x => simp only [h x (by simp [ho, Op.operands])]
 | build ty parts =>
  have : (parts.toList.mapM fun (i, x) => (ρ x).map fun d => (i, d)) = parts.toList.mapM fun (i, x) => (ρ' x).map fun d => (i, d) := mapM_same fun x hx => by
   show (ρ x.2).map _ = (ρ' x.2).map _
   rw [h x.2 (by simp [ho, Op.operands]; exact ⟨x.1, by simpa using hx⟩)]
  simp only [this]
 | buildSlice ty len parts =>
  have : (parts.toList.mapM fun (i, x) => (ρ x).map fun d => (i, d)) = parts.toList.mapM fun (i, x) => (ρ' x).map fun d => (i, d) := mapM_same fun x hx => by
   show (ρ x.2).map _ = (ρ' x.2).map _
   rw [h x.2 (by simp [ho, Op.operands]; exact ⟨x.1, by simpa using hx⟩)]
  simp only [this]
 | load ty a => simp only [h a (by simp [ho, Op.operands])]
 | store ty a x => simp only [h a (by simp [ho, Op.operands]), h x (by simp [ho, Op.operands])]
 | binOp op ty x y sh => simp only [h x (by simp [ho, Op.operands]), h y (by simp [ho, Op.operands])]
 | unOp op ty x => simp only [h x (by simp [ho, Op.operands])]
 | convert src dst x => simp only [h x (by simp [ho, Op.operands])]
 | makeFunc fn first cap =>
  have h1 : ∀ x ∈ first.toList, ρ x = ρ' x := fun x hx => h x (by simp [ho, Op.operands]; simp at hx; simp [hx])
  have h2 : ∀ x ∈ cap.toList, ρ x = ρ' x := fun x hx => h x (by simp [ho, Op.operands]; simp at hx; simp [hx])
  have e1 := mapM_same (g := fun x => (ρ' x).bind fun d => match d with | .one c => some c | _ => none) (fun x hx => congrArg (fun y => Option.bind y fun d => match d with | .one c => some c | _ => none) (h1 x hx))
  have e2 := mapM_same (g := fun x => (ρ' x).bind fun d => match d with | .one c => some c | _ => none) (fun x hx => congrArg (fun y => Option.bind y fun d => match d with | .one c => some c | _ => none) (h2 x hx))
  have key : ∀ {a b a' b' : Option (List C)}, a = a' → b = b' → (a.bind fun f => b.bind fun g => some ({ v := .one (.clo fn f g) } : Eff)) = a'.bind fun f => b'.bind fun g => some { v := .one (.clo fn f g) } := fun h1 h2 => by rw [h1, h2]
  exact key e1 e2
 | makeSlice ty l c => simp only [h l (by simp [ho, Op.operands]), h c (by simp [ho, Op.operands])]
 | slice ty x lo hi mx =>
  have h1 : ∀ d, natOr ρ hi d = natOr ρ' hi d := fun d => by cases hi with | none => rfl | some y => simp only [natOr]; rw [h y (by simp [ho, Op.operands])]
  have h2 : ∀ d, natOr ρ lo d = natOr ρ' lo d := fun d => by cases lo with | none => rfl | some y => simp only [natOr]; rw [h y (by simp [ho, Op.operands])]
  have h3 : ∀ d, natOr ρ mx d = natOr ρ' mx d := fun d => by cases mx with | none => rfl | some y => simp only [natOr]; rw [h y (by simp [ho, Op.operands])]
  simp only [h x (by simp [ho, Op.operands]), h1, h2, h3]
 | fieldAddr ty x f => simp only [h x (by simp [ho, Op.operands])]
 | field ty x f => simp only [h x (by simp [ho, Op.operands])]
 | indexAddr ty x ix => simp only [h x (by simp [ho, Op.operands]), h ix (by simp [ho, Op.operands])]
 | index ty x ix => simp only [h x (by simp [ho, Op.operands]), h ix (by simp [ho, Op.operands])]
 | extract tp ix => simp only [h tp (by simp [ho, Op.operands])]
 | call c =>
  cases hc : c.callee with
  | builtin b =>
   have h1 : c.args.toList.mapM ρ = c.args.toList.mapM ρ' := mapM_same fun x hx => h x (by simp [ho, Op.operands, Call.operands, hc]; simpa using hx)
   simp only [h1]
  | _ => simp only [hc]
 | _ => rfl
theorem step_same {E : Env} {cp : CallP} {ops : Array Oper} {nid : Nat} {o : Oper} {t : List D} {H : Heap} : step E cp ops nid o (only (looks ops o) t) H = step E cp ops nid o (slots t) H := by
 have hl : ∀ x ∈ o.op.operands.toList, opndG (only (looks ops o) t) x = opndG (slots t) x := fun x hx => by
  cases x with
  | tmp i =>
   have : i ∈ looks ops o := by
    unfold looks
    rw [List.mem_append]
    exact .inl (List.mem_filterMap.2 ⟨.tmp i, hx, rfl⟩)
   simp [opndG, only, this]
  | _ => rfl
 have hw : wantedD ops (only (looks ops o) t) o = wantedD ops (slots t) o := by
  unfold wantedD
  cases hg : o.guard with
  | none => rfl
  | some p =>
   obtain ⟨j, want⟩ := p
   simp only
   cases hj : ops[j]? with
   | none => rfl
   | some g =>
    cases hd : g.dst with
    | none => simp [hd]
    | some d =>
     have : d ∈ looks ops o := by
      unfold looks
      rw [List.mem_append]
      refine .inr ?_
      simp only [hg, hj, Option.bind_some, hd]
      simp
     simp [hd, only, this]
 unfold step
 rw [hw]
 congr 1
 funext b
 split
 ·cases hc : isCall o.op with
  | none => exact sem_same hl
  | some c =>
   have ho : o.op = .call c := by
    unfold isCall at hc
    split at hc
    ·rename_i c' ho
     split at hc
     ·simp at hc
     ·simp only [Option.some.injEq] at hc; subst hc; exact ho
    ·simp at hc
   have hr : resolveD c (opndG (only (looks ops o) t)) = resolveD c (opndG (slots t)) := by
    unfold resolveD
    cases hcc : c.callee with
    | value f =>
     have h1 : c.args.toList.mapM (opndG (only (looks ops o) t)) = c.args.toList.mapM (opndG (slots t)) := mapM_same fun x hx => hl x (by simp [ho, Op.operands, Call.operands, hcc]; simp at hx; simp [hx])
     simp only [h1, hl f (by simp [ho, Op.operands, Call.operands, hcc])]
    | _ => rfl
   have hp : pcall cp nid c (only (looks ops o) t) H = pcall cp nid c (slots t) H := by
    unfold pcall
    simp only [hr]
   exact hp
 ·rfl
def evR (E : Env) (cp : CallP) (ops : Array Oper) (H : Heap) (b : Nat) : Nat → List Oper → List D → Option (List D)
 | _, [], t => some t
 | i, o :: r, t => do
  let e ← step E cp ops (b + i) o (slots t) H
  if e.upd.isEmpty then evR E cp ops H b (i + 1) r (← setT t o.dst e.v) else none
theorem evR_eq {E : Env} {cp : CallP} {ops : Array Oper} {H : Heap} {b : Nat} : ∀ (l : List Oper) (i : Nat) (t : List D), evR E cp ops H b i l t = evQ E cp ops H b i l t
 | [], _, _ => rfl
 | o :: l, i, t => by
  simp only [evR, evQ, step_same]
  congr 1
  funext e
  split
  ·congr 1
   funext t'
   exact evR_eq l (i + 1) t'
  ·rfl
def evW (E : Env) (cp : CallP) (ops : Array Oper) (b : Nat) (U M : Nat → List Nat) : Nat → List Oper → St → Option St
 | _, [], s => some s
 | i, o :: r, s => do
  let e ← step E cp ops (b + i) o (slots s.t) (mask s.h (M i))
  if ids e = U i ∧ (U i).all (· < s.h.length) = true then evW E cp ops b U M (i + 1) r (← put o s e) else none
theorem evW_eq {E : Env} {cp : CallP} {ops : Array Oper} {b : Nat} {U M : Nat → List Nat} : ∀ (l : List Oper) (i : Nat) (s : St), evW E cp ops b U M i l s = evDraw2 E cp ops b U M i l s
 | [], _, _ => rfl
 | o :: l, i, s => by
  simp only [evW, evDraw2, step_same]
  congr 1
  funext e
  split
  ·congr 1
   funext s1
   exact evW_eq l (i + 1) s1
  ·rfl
section
variable {E : Env} {y : Nat → YldP} {n : Nat}
theorem wpc_still {id : Nat} {ops : Array Oper} {Q : Ex → St → Prop} {t : List D} {h : Heap} (hq : drawOkQ ops = true) (hh : ∀ h', h'.length = h.length + ops.size → (∀ k, getBlk h' k = getBlk h k) → holdsQ (fun t => Q .normal { t, h := h' }) (evR E (cpR E n) ops h' h.length 0 ops.toList t)) : WpC E y n (.region id ops true) Q { t, h } := by
 refine wpc_quiet hq ?_
 rw [← evR_eq]
 exact hh _ (by simp) fun k => getBlk_pad _ _ _
theorem wpc_turn {id : Nat} {ops : Array Oper} {Q : Ex → St → Prop} {t : List D} {h : Heap} (O : List (List Nat)) (N : List (Bool × List Nat)) (R : List (List Nat)) (hq : drawOkQ ops = true) (hn : newOk ops N = true) (hR : openTo ops = R) (hO : DJ O R O) (hb : ∀ l ∈ O, ∀ k ∈ l, k < h.length)
  (hh : ∀ h', h'.length = h.length + ops.size → (∀ k, getBlk h' k = getBlk h k) → holdsQ (Q .normal) (evW E (cpR E n) ops h.length (turnsOf h.length O N) (fun i => (R.getD i []).flatMap (turnsOf h.length O N)) 0 ops.toList { t, h := h' })) : WpC E y n (.region id ops true) Q { t, h } := by
 refine wpc_drawW O N R hq hn hR hO hb ?_
 rw [← evW_eq]
 exact hh _ (by simp) fun k => getBlk_pad _ _ _
end
end Ev
end Go.Proofs.Ytcnfdbkolbgbcaa
end
section
namespace Go.Proofs.Ytcnfdbkolbgbcaa
namespace Ev
open Go Go.RowKit
set_option linter.unusedVariables false
set_option linter.unusedSimpArgs false
def gOf (ops : Array Oper) (o : Oper) : Option (Option (Tmp × Bool)) :=
 match o.guard with
 | none => some none
 | some (j, w) => ((ops.toList[j]?).bind fun g => g.dst).map fun d => some (d, w)
def wantG (t : Tmp → Option D) : Option (Tmp × Bool) → Option Bool
 | none => some true
 | some (d, w) => do
  match ← t d with
  | .one (.p _ (.v (.bool b))) => some (b == w)
  | .tup [] => some false
  | _ => none
def opOf (op : Op) : Oper := { dst := none, op, type := 0, pos := "", after := #[], guard := none }
def stepG (E : Env) (cp : CallP) (g : Option (Tmp × Bool)) (nid : Nat) (op : Op) (t : Tmp → Option D) (H : Heap) : Option Eff := do
 if ← wantG t g then
  match isCall op with
  | some c => pcall cp nid c t H
  | none => sem E nid (opOf op) (opndG t) H
 else some { v := undefD }
theorem stepG_eq {E : Env} {cp : CallP} {ops : Array Oper} {g : Option (Tmp × Bool)} {nid : Nat} {o : Oper} {t : Tmp → Option D} {H : Heap} (hg : gOf ops o = some g) : step E cp ops nid o t H = stepG E cp g nid o.op t H := by
 have hw : wantedD ops t o = wantG t g := by
  unfold gOf at hg
  unfold wantedD
  cases ho : o.guard with
  | none => rw [ho] at hg; simp only [Option.some.injEq] at hg; subst hg; rfl
  | some p =>
   obtain ⟨j, w⟩ := p
   rw [ho] at hg
   simp only [Option.map_eq_some_iff] at hg
   obtain ⟨d, h1, h2⟩ := hg
   subst h2
   rw [Option.bind_eq_some_iff] at h1
   obtain ⟨o', h3, h4⟩ := h1
   have h3' : ops[j]? = some o' := by simpa using h3
   simp only [h3', h4, Option.bind_eq_bind, Option.bind_some, wantG]
   rfl
 unfold step stepG
 rw [hw]
 rfl
theorem apply_nil (H : Heap) : Ev.apply H [] = H := rfl
section
variable {E : Env} {y : Nat → YldP} {n : Nat} {cp : CallP} {cf : CallG} {ops : Array Oper} {Q : St → Prop} {QT : List D → Prop} {o : Oper} {r : List Oper} {f : Nat → D} {H H' : Heap} {v : D} {u : List (Nat × Blk)} {d : Nat}
variable {g : Option (Tmp × Bool)}
variable {b i : Nat}
theorem r_put (hg : gOf ops o = some g) (hd : o.dst = some d) (hn : d < n) (hs : stepG E cp g (b + i) o.op (slots (tab n f)) H = some ⟨v, []⟩) (h : holdsQ QT (evR E cp ops H b (i + 1) r (tab n (upd f d v)))) : holdsQ QT (evR E cp ops H b i (o :: r) (tab n f))   := by
 rw [← stepG_eq hg] at hs
 have : evR E cp ops H b i (o :: r) (tab n f) = evR E cp ops H b (i + 1) r (tab n (upd f d v)) := by
  simp only [evR, hs, hd, setT, tab_len, hn, if_true, tab_set, Option.bind_eq_bind, Option.bind_some, List.isEmpty_nil]
 rw [this]; exact h
theorem r_none (hg : gOf ops o = some g) (hd : o.dst = none) (hs : stepG E cp g (b + i) o.op (slots (tab n f)) H = some ⟨v, []⟩) (h : holdsQ QT (evR E cp ops H b (i + 1) r (tab n f))) : holdsQ QT (evR E cp ops H b i (o :: r) (tab n f))   := by
 rw [← stepG_eq hg] at hs
 have : evR E cp ops H b i (o :: r) (tab n f) = evR E cp ops H b (i + 1) r (tab n f) := by
  simp only [evR, hs, hd, setT, if_true, Option.bind_eq_bind, Option.bind_some, List.isEmpty_nil]
 rw [this]; exact h
variable {U M : Nat → List Nat}
theorem w_put (hg : gOf ops o = some g) (hd : o.dst = some d) (hn : d < n) (hs : stepG E cp g (b + i) o.op (slots (tab n f)) (mask H (M i)) = some ⟨v, u⟩) (hi : u.map (·.1) = U i) (hl : (U i).all (· < H.length) = true) (hu : Ev.apply H u = H') (h : holdsQ Q (evW E cp ops b U M (i + 1) r { t := tab n (upd f d v), h := H' })) :
  holdsQ Q (evW E cp ops b U M i (o :: r) { t := tab n f, h := H }) := by
 subst hu
 rw [← stepG_eq hg] at hs
 have : evW E cp ops b U M i (o :: r) { t := tab n f, h := H } = evW E cp ops b U M (i + 1) r { t := tab n (upd f d v), h := Ev.apply H u } := by
  simp only [evW, hs, put, hd, setT, tab_len, hn, if_true, tab_set, Option.bind_eq_bind, Option.bind_some, ids, hi, hl, and_self]
 rw [this]; exact h
theorem w_none (hg : gOf ops o = some g) (hd : o.dst = none) (hs : stepG E cp g (b + i) o.op (slots (tab n f)) (mask H (M i)) = some ⟨v, u⟩) (hi : u.map (·.1) = U i) (hl : (U i).all (· < H.length) = true) (hu : Ev.apply H u = H') (h : holdsQ Q (evW E cp ops b U M (i + 1) r { t := tab n f, h := H' })) :
  holdsQ Q (evW E cp ops b U M i (o :: r) { t := tab n f, h := H }) := by
 subst hu
 rw [← stepG_eq hg] at hs
 have : evW E cp ops b U M i (o :: r) { t := tab n f, h := H } = evW E cp ops b U M (i + 1) r { t := tab n f, h := Ev.apply H u } := by
  simp only [evW, hs, put, hd, setT, if_true, Option.bind_eq_bind, Option.bind_some, ids, hi, hl, and_self]
 rw [this]; exact h
end
section
variable {E : Env} {y : Nat → YldP} {n : Nat}
theorem wpc_stillL {id : Nat} {l : List Oper} {Q : Ex → St → Prop} {t : List D} {h : Heap} (k : Nat) (hk : l.length = k) (hq : drawOkQ l.toArray = true) (hh : ∀ h', h'.length = h.length + k → (∀ k, getBlk h' k = getBlk h k) → holdsQ (fun t => Q .normal { t, h := h' }) (evR E (cpR E n) l.toArray h' h.length 0 l t)) : WpC E y n (.region id l.toArray true) Q { t, h } :=
 wpc_still hq fun h' h1 h2 => by simpa using hh h' (by simpa [hk] using h1) h2
theorem wpc_turnL {id : Nat} {l : List Oper} {Q : Ex → St → Prop} {t : List D} {h : Heap} (k : Nat) (hk : l.length = k) (O : List (List Nat)) (N : List (Bool × List Nat)) (R : List (List Nat)) (hq : drawOkQ l.toArray = true) (hn : newOk l.toArray N = true) (hR : openTo l.toArray = R) (hO : DJ O R O) (hb : ∀ l ∈ O, ∀ k ∈ l, k < h.length)
  (hh : ∀ h', h'.length = h.length + k → (∀ k, getBlk h' k = getBlk h k) → holdsQ (Q .normal) (evW E (cpR E n) l.toArray h.length (turnsOf h.length O N) (fun i => (R.getD i []).flatMap (turnsOf h.length O N)) 0 l { t, h := h' })) : WpC E y n (.region id l.toArray true) Q { t, h } :=
 wpc_turn O N R hq hn hR hO hb fun h' h1 h2 => by simpa using hh h' (by simpa [hk] using h1) h2
end
end Ev
end Go.Proofs.Ytcnfdbkolbgbcaa
end
section
namespace Go.Proofs.Ytcnfdbkolbgbcaa
namespace Ev
open Go Go.RowKit
set_option linter.unusedVariables false
set_option linter.unusedSimpArgs false
def fieldAt (ti : TypeId → Option TI) (ty m : Nat) : Option (Nat × Nat × Bool) := (ti ty).bind fun t => (fieldOf t m).bind fun fd => (ti fd.type).bind fun ft => some (fd.offset, ft.size, isAggD ft.desc)
def sizeAt (ti : TypeId → Option TI) (ty : Nat) : Option (Nat × Bool) := (ti ty).bind fun t => some (t.size, isAggD t.desc)
def elemAt (ti : TypeId → Option TI) (ty : Nat) : Option Nat := (ti ty).bind fun t => (elemOf t).bind fun e => (ti e).bind fun te => some te.size
def kMove : Option D → Option Eff
 | some d => some ⟨d, []⟩
 | none => none
def kField : Option (Nat × Nat × Bool) → Option D → Option Eff
 | some (off, sz, _), some (.one (.ptr k i j)) => if sz = 0 then none else some ⟨.one (.ptr k i (j + off)), []⟩
 | some (off, sz, _), some (.one (.iptr fr s l i j)) => if sz = 0 then none else some ⟨.one (.iptr fr s l i (j + off)), []⟩
 | _, _ => none
def kOut : Option D → Option Eff
 | some d => some ⟨d, []⟩
 | none => none
def kOf (agg : Bool) : Option (List C) → Option D
 | some cs => ofCells agg cs
 | none => none
def kCut (j n : Nat) : Option (List C) → Option (List C)
 | some cs => cut cs j n
 | none => none
def kRow (i : Nat) : Option (Nat × List (List C)) → Option (List C)
 | some (_, es) => es[i]?
 | none => none
def kIn (fr : Bool) : Option (List T) → Option (List C)
 | some e => some (e.map (pC fr))
 | none => none
def kLoad (H : Heap) : Option (Nat × Bool) → Option D → Option Eff
 | some (sz, agg), some (.one (.ptr k i j)) => kOut (kOf agg (kCut j (if agg then sz else 1) (kRow i (getBlk H k))))
 | some (sz, agg), some (.one (.iptr fr _ l i j)) => kOut (kOf agg (kCut j (if agg then sz else 1) (kIn fr l[i]?)))
 | _, _ => none
def kPick : Option D → Option D → Option D → Option Eff
 | some (.one (.p _ (.v (.bool true)))), a, _ => kMove a
 | some (.one (.p _ (.v (.bool false)))), _, b => kMove b
 | _, _, _ => none
def kBin2 (P : Program) (ti : TypeId → Option TI) (op : BinOp) (ty : TypeId) (x y : Operand) (a b : D) : Option Eff :=
 match a, y with
 | .one (.p _ (.s nn _ _)), .const (.slice none 0 0) => do
  let _ ← elemOf (← ti ty)
  match op with
  | .eql => some { v := mk (.bool (!nn)) }
  | .neq => some { v := mk (.bool nn) }
  | _ => none
 | .one (.own ..), .const (.slice none 0 0) => do
  let _ ← elemOf (← ti ty)
  match op with
  | .eql => some { v := mk (.bool false) }
  | .neq => some { v := mk (.bool true) }
  | _ => none
 | _, _ => do
  let va ← plain a
  let vb ← plain b
  mkO (← pureOf P (do eqGuard op ty x y va vb; binOp op ty va vb))
def kBin (P : Program) (ti : TypeId → Option TI) (op : BinOp) (ty : TypeId) (x y : Operand) : Option D → Option D → Option Eff
 | some a, some b => kBin2 P ti op ty x y a b
 | _, _ => none
def kIdx (i : Nat) (fr : Bool) (sz : Nat) (l : List (List T)) : Option Nat → Option Eff
 | some te => if i < l.length ∧ sz = te then some ⟨.one (.iptr fr sz l i 0), []⟩ else none
 | none => none
def kIdo (i k off n : Nat) : Option Nat → Option (Nat × List (List C)) → Option Eff
 | some te, some (bz, _) => if i < n ∧ bz = te then some ⟨.one (.ptr k (off + i) 0), []⟩ else none
 | _, _ => none
def kIx2 (ti : TypeId → Option TI) (ty : TypeId) (H : Heap) (i : Nat) (d : D) : Option Eff := do
 let t ← ti ty
 match d with
 | .one (.p fr (.s _ sz l)) => do
  let te ← ti (← elemOf t)
  if i < l.length ∧ sz = te.size then some { v := .one (.iptr fr sz l i 0) } else none
 | .one (.own k off n) => do
  let te ← ti (← elemOf t)
  let (bz, _) ← getBlk H k
  if i < n ∧ bz = te.size then some { v := .one (.ptr k (off + i) 0) } else none
 | .one (.ptr k i' j) =>
  match t.desc with
  | .array n e => do
   let te ← ti e
   if i < n then some { v := .one (.ptr k i' (j + i * te.size)) } else none
  | _ => none
 | .one (.iptr fr sz l i' j) =>
  match t.desc with
  | .array n e => do
   let te ← ti e
   if i < n then some { v := .one (.iptr fr sz l i' (j + i * te.size)) } else none
  | _ => none
 | _ => none
def kIx (ti : TypeId → Option TI) (ty : TypeId) (H : Heap) : Option D → Option Nat → Option Eff
 | some d, some i => kIx2 ti ty H i d
 | _, _ => none
def kPatch (j : Nat) (cs : List C) : Option (List C) → Option (List C)
 | some e => patch e j cs
 | none => none
def kPut2 (k i bz : Nat) (es : List (List C)) : Option (List C) → Option Eff
 | some e' => some ⟨undefD, [(k, .own bz (es.set i e'))]⟩
 | none => none
def kPut (k i j sz : Nat) : Option (List C) → Option (Nat × List (List C)) → Option Eff
 | some cs, some (bz, es) => if cs.length = sz then kPut2 k i bz es (kPatch j cs es[i]?) else none
 | _, _ => none
def kStore (H : Heap) : Option (Nat × Bool) → Option D → Option D → Option Eff
 | some (sz, _), some (.one (.ptr k i j)), some x => kPut k i j sz (dcells x) (getBlk H k)
 | _, _, _ => none
def kNat : Option D → Option Nat
 | some d => asNat d
 | none => none
section
variable {E : Env} {cp : CallP} {nid : Nat} {t : Tmp → Option D} {H : Heap}
theorem s_move {x : Operand} : stepG E cp none nid (.move x) t H = kMove (opndG t x) := by
 show (opndG t x).bind (fun d => some (⟨d, []⟩ : Eff)) = _
 cases opndG t x <;> rfl
theorem s_assign {x : Operand} : stepG E cp none nid (.assign x) t H = kMove (opndG t x) := by
 show (opndG t x).bind (fun d => some (⟨d, []⟩ : Eff)) = _
 cases opndG t x <;> rfl
theorem s_field {ty : TypeId} {x : Operand} {m : Nat} : stepG E cp none nid (.fieldAddr ty x m) t H = kField (fieldAt E.ti ty m) (opndG t x) := by
 show ((E.ti ty).bind fun t' => (fieldOf t' m).bind fun fd => (E.ti fd.type).bind fun ft => if ft.size = 0 then none else (opndG t x).bind fun d => match d with
  | .one (.ptr k i j) => some (⟨.one (.ptr k i (j + fd.offset)), []⟩ : Eff)
  | .one (.iptr fr sz l i j) => some ⟨.one (.iptr fr sz l i (j + fd.offset)), []⟩
  | _ => none) = _
 unfold fieldAt
 cases E.ti ty with
 | none => rfl
 | some t' =>
  simp only [Option.bind_some]
  cases fieldOf t' m with
  | none => rfl
  | some fd =>
   simp only [Option.bind_some]
   cases E.ti fd.type with
   | none => rfl
   | some ft =>
    simp only [Option.bind_some]
    cases hx : opndG t x with
    | none => split <;> rfl
    | some d =>
     cases d with
     | one c => cases c <;> simp only [kField, Option.bind_some] <;> split <;> rfl
     | _ => simp only [kField, Option.bind_some]; split <;> rfl
theorem s_load {ty : TypeId} {x : Operand} : stepG E cp none nid (.load ty x) t H = kLoad H (sizeAt E.ti ty) (opndG t x) := by
 show ((E.ti ty).bind fun t' => (opndG t x).bind fun d => (load H (isAggD t'.desc) (if isAggD t'.desc then t'.size else 1) d).bind fun v => some (⟨v, []⟩ : Eff)) = _
 unfold sizeAt
 cases E.ti ty with
 | none => rfl
 | some t' =>
  simp only [Option.bind_some]
  cases opndG t x with
  | none => rfl
  | some d =>
   simp only [Option.bind_some]
   cases d with
   | one c =>
    cases c with
    | ptr k i j =>
     simp only [kLoad, load]
     cases getBlk H k with
     | none => rfl
     | some p =>
      obtain ⟨bz, es⟩ := p
      simp only [Option.bind_eq_bind, Option.bind_some, kRow]
      cases es[i]? with
      | none => rfl
      | some e =>
       simp only [Option.bind_some, kCut]
       generalize cut e j _ = z
       cases z with
       | none => rfl
       | some cs => simp only [Option.bind_some, kOf]; cases ofCells _ cs <;> rfl
    | iptr fr sz l i j =>
     simp only [kLoad, load]
     cases l[i]? with
     | none => rfl
     | some e =>
      simp only [Option.bind_eq_bind, Option.bind_some, kIn, kCut]
      generalize cut _ j _ = z
      cases z with
      | none => rfl
      | some cs => simp only [Option.bind_some, kOf]; cases ofCells _ cs <;> rfl
    | _ => rfl
   | _ => rfl
theorem s_bin {op : BinOp} {ty sh : TypeId} {x y : Operand} : stepG E cp none nid (.binOp op ty x y sh) t H = kBin E.P E.ti op ty x y (opndG t x) (opndG t y) := by
 show ((opndG t x).bind fun a => (opndG t y).bind fun b => kBin2 E.P E.ti op ty x y a b) = _
 cases opndG t x with
 | none => rfl
 | some a =>
  cases opndG t y with
  | none => rfl
  | some b => rfl
theorem kB_int {P : Program} {ti : TypeId → Option TI} {op : BinOp} {ty : TypeId} {x y : Operand} {fr fr' : Bool} {k k' : IntKind} {a b : Int} :
  kBin2 P ti op ty x y (.one (.p fr (.v (.int k a)))) (.one (.p fr' (.v (.int k' b)))) = (pureOf P (do eqGuard op ty x y (.int k a) (.int k' b); binOp op ty (.int k a) (.int k' b))).bind mkO := rfl
theorem s_pick {c a b : Operand} : stepG E cp none nid (.pick c a b) t H = kPick (opndG t c) (opndG t a) (opndG t b) := by
 show ((opndG t c).bind fun d => (asBool d).bind fun z => if z then (opndG t a).bind fun v => some (⟨v, []⟩ : Eff) else (opndG t b).bind fun v => some ⟨v, []⟩) = _
 cases opndG t c with
 | none => rfl
 | some d =>
  simp only [Option.bind_some]
  cases d with
  | one e =>
   cases e with
   | p fr z =>
    cases z with
    | v z =>
     cases z with
     | bool z =>
      cases z
      ·simp only [asBool, Option.bind_some, kPick, Bool.false_eq_true, if_false]; cases opndG t b <;> rfl
      ·simp only [asBool, Option.bind_some, kPick, if_true]; cases opndG t a <;> rfl
     | _ => rfl
    | _ => rfl
   | _ => rfl
  | _ => rfl
theorem s_index {ty : TypeId} {x ix : Operand} : stepG E cp none nid (.indexAddr ty x ix) t H = kIx E.ti ty H (opndG t x) (kNat (opndG t ix)) := by
 show ((E.ti ty).bind fun t' => (opndG t ix).bind fun di => (asNat di).bind fun i => (opndG t x).bind fun d => _) = _
 cases h1 : opndG t x with
 | none =>
  simp only [Option.bind_none, kIx]
  cases E.ti ty with
  | none => rfl
  | some t' =>
   cases opndG t ix with
   | none => rfl
   | some di => simp only [Option.bind_some]; cases asNat di <;> rfl
 | some d =>
  cases h2 : opndG t ix with
  | none => cases E.ti ty <;> rfl
  | some di =>
   simp only [kNat, Option.bind_some]
   cases h3 : asNat di with
   | none => cases E.ti ty <;> rfl
   | some i =>
    simp only [Option.bind_some, kIx, kIx2]
    rfl
theorem kI_s {ti : TypeId → Option TI} {ty : TypeId} {i : Nat} {fr nn : Bool} {sz : Nat} {l : List (List T)} : kIx2 ti ty H i (.one (.p fr (.s nn sz l))) = kIdx i fr sz l (elemAt ti ty) := by
 show ((ti ty).bind fun t' => (elemOf t').bind fun e => (ti e).bind fun te => if i < l.length ∧ sz = te.size then some (⟨.one (.iptr fr sz l i 0), []⟩ : Eff) else none) = _
 unfold elemAt
 cases ti ty with
 | none => rfl
 | some t' =>
  simp only [Option.bind_some]
  cases elemOf t' with
  | none => rfl
  | some e =>
   simp only [Option.bind_some]
   cases ti e <;> rfl
theorem kI_o {ti : TypeId → Option TI} {ty : TypeId} {i k off n : Nat} : kIx2 ti ty H i (.one (.own k off n)) = kIdo i k off n (elemAt ti ty) (getBlk H k) := by
 show ((ti ty).bind fun t' => (elemOf t').bind fun e => (ti e).bind fun te => (getBlk H k).bind fun p => match p with | (bz, _) => if i < n ∧ bz = te.size then some (⟨.one (.ptr k (off + i) 0), []⟩ : Eff) else none) = _
 unfold elemAt
 cases ti ty with
 | none => rfl
 | some t' =>
  simp only [Option.bind_some]
  cases elemOf t' with
  | none => rfl
  | some e =>
   simp only [Option.bind_some]
   cases ti e with
   | none => rfl
   | some te => simp only [Option.bind_some]; cases getBlk H k <;> rfl
theorem s_store {ty : TypeId} {a x : Operand} : stepG E cp none nid (.store ty a x) t H = kStore H (sizeAt E.ti ty) (opndG t a) (opndG t x) := by
 show ((E.ti ty).bind fun t' => (opndG t a).bind fun d => (opndG t x).bind fun v => store H t'.size d v) = _
 unfold sizeAt
 cases E.ti ty with
 | none => rfl
 | some t' =>
  simp only [Option.bind_some]
  cases opndG t a with
  | none => rfl
  | some d =>
   simp only [Option.bind_some]
   cases opndG t x with
   | none => cases d with | one c => cases c <;> rfl | _ => rfl
   | some v =>
    simp only [Option.bind_some]
    cases d with
    | one c =>
     cases c with
     | ptr k i j =>
      simp only [kStore, store]
      cases dcells v with
      | none => rfl
      | some cs =>
       simp only [Option.bind_eq_bind, Option.bind_some]
       cases getBlk H k with
       | none => simp only [kPut]; split <;> rfl
       | some p =>
        obtain ⟨bz, es⟩ := p
        simp only [Option.bind_some, kPut]
        split
        ·cases es[i]? with
         | none => rfl
         | some e => simp only [Option.bind_some, kPatch]; cases patch e j cs <;> rfl
        ·rfl
     | _ => rfl
    | _ => rfl
theorem s_call {c : Call} : stepG E cp none nid (.call c) t H = match isCall (.call c) with
  | some c => pcall cp nid c t H
  | none => sem E nid (opOf (.call c)) (opndG t) H := rfl
end
end Ev
end Go.Proofs.Ytcnfdbkolbgbcaa
end
section
namespace Go.Proofs.Ytcnfdbkolbgbcaa
namespace Ev
open Go Go.RowKit
set_option linter.unusedVariables false
set_option linter.unusedSimpArgs false
structure Sl (α : Type) where
 nn : Bool
 sz : Nat
 l : List α
def Sl.t {α : Type} (r : α → List T) (s : Sl α) : T := .s s.nn s.sz (s.l.map r)
def rowC {α : Type} (r : α → List T) (x : α) : List C := (r x).map (pC true)
abbrev iT (k : IntKind) (n : Int) : T := .v (.int k n)
abbrev bT (b : Bool) : T := .v (.bool b)
abbrev iC (k : IntKind) (n : Int) : C := .p true (.v (.int k n))
abbrev bC (b : Bool) : C := .p true (.v (.bool b))
abbrev iD (k : IntKind) (n : Int) : D := .one (iC k n)
abbrev bD (b : Bool) : D := .one (bC b)
def up (f : Nat → D) (d : Nat) (v : D) : Nat → D := fun i => cond (Nat.beq i d) v (f i)
theorem up_eq (f : Nat → D) (d : Nat) (v : D) : upd f d v = up f d v := by
 funext i
 unfold upd up
 cases hb : Nat.beq i d with
 | true => rw [if_pos (Nat.eq_of_beq_eq_true hb)]; rfl
 | false => rw [if_neg (Nat.ne_of_beq_eq_false hb)]; rfl
abbrev B1 := Nat × Nat × List (List C)
abbrev BL := List (List B1)
def HBf (h : Heap) (L : List B1) : Prop := (L.map (·.1)).Nodup ∧ ∀ x ∈ L, getBlk h x.1 = some x.2
section
variable {h : Heap} {L : List B1} {p k sz : Nat} {es : List (List C)}
theorem HBf.get (hb : HBf h L) (hp : L[p]? = some (k, sz, es)) : getBlk h k = some (sz, es) := hb.2 _ (List.mem_of_getElem? hp)
theorem HBf.lt (hb : HBf h L) {x} (hx : x ∈ L) : x.1 < h.length := getBlk_lt (hb.2 x hx)
theorem HBf.new (hb : HBf h L) (sz : Nat) (es : List (List C)) : HBf (putBlk h h.length (.own sz es)) ((h.length, sz, es) :: L) := by
 refine ⟨?_, fun x hx => ?_⟩
 ·rw [List.map_cons, List.nodup_cons]
  refine ⟨fun hm => ?_, hb.1⟩
  obtain ⟨x, hx, he⟩ := List.mem_map.1 hm
  have := hb.lt hx
  omega
 ·rcases List.mem_cons.1 hx with rfl | hx
  ·rw [getBlk_put, if_pos rfl]
  ·rw [getBlk_put, if_neg (by have := hb.lt hx; omega)]; exact hb.2 x hx
theorem nodup_get {l : List Nat} (hn : l.Nodup) {i j x : Nat} (hi : l[i]? = some x) (hj : l[j]? = some x) : i = j := by
 obtain ⟨h1, h2⟩ := List.getElem?_eq_some_iff.1 hi
 obtain ⟨h3, h4⟩ := List.getElem?_eq_some_iff.1 hj
 have hp := List.pairwise_iff_getElem.1 hn
 rcases Nat.lt_trichotomy i j with h | h | h
 ·exact absurd (h2.trans h4.symm) (hp i j h1 h3 h)
 ·exact h
 ·exact absurd (h4.trans h2.symm) (hp j i h3 h1 h)
theorem HBf.key (hb : HBf h L) (hp : L[p]? = some (k, sz, es)) {j : Nat} {x : Nat × Nat × List (List C)} (hj : L[j]? = some x) (hx : x.1 = k) : j = p := by
 refine nodup_get (x := k) hb.1 ?_ ?_
 ·rw [List.getElem?_map, hj, ← hx]; rfl
 ·rw [List.getElem?_map, hp]; rfl
theorem HBf.set (hb : HBf h L) (hp : L[p]? = some (k, sz, es)) (sz' : Nat) (es' : List (List C)) : HBf (putBlk h k (.own sz' es')) (L.set p (k, sz', es')) := by
 have hpl := (List.getElem?_eq_some_iff.1 hp).1
 refine ⟨?_, fun x hx => ?_⟩
 ·have : (L.set p (k, sz', es')).map (·.1) = L.map (·.1) := by
   rw [List.map_set]
   refine List.ext_getElem? fun i => ?_
   rw [List.getElem?_set]
   split
   ·rename_i hi; subst hi; rw [if_pos (by simpa using hpl), List.getElem?_map, hp]; rfl
   ·rfl
  rw [this]; exact hb.1
 ·obtain ⟨i, hi⟩ := List.getElem?_of_mem hx
  rw [List.getElem?_set] at hi
  split at hi
  ·rename_i hpi
   first
    | rw [if_pos hpl] at hi
    | skip
   simp only [Option.some.injEq] at hi
   subst hi
   rw [getBlk_put, if_pos rfl]
  ·rename_i hpi
   rw [getBlk_put, if_neg (fun he => hpi (hb.key hp hi he).symm)]
   exact hb.2 x (List.mem_of_getElem? hi)
theorem HBf.sub (hb : HBf h L) (is : List Nat) (hn : is.Nodup) {L2 : List B1} (h2 : is.filterMap (fun i => L[i]?) = L2) : HBf h L2 := by
 subst h2
 refine ⟨?_, fun x hx => ?_⟩
 ·induction is with
  | nil => simp
  | cons i is ih =>
   obtain ⟨hi, hn⟩ := List.nodup_cons.1 hn
   rw [List.filterMap_cons]
   cases hx : L[i]? with
   | none => exact ih hn
   | some x =>
    simp only [List.map_cons, List.nodup_cons]
    refine ⟨fun hm => ?_, ih hn⟩
    obtain ⟨y, hy, he⟩ := List.mem_map.1 hm
    obtain ⟨j, hj, hjy⟩ := List.mem_filterMap.1 hy
    have := hb.key (p := i) (k := x.1) (sz := x.2.1) (es := x.2.2) hx hjy he
    subst this
    exact hi hj
 ·obtain ⟨i, _, hi⟩ := List.mem_filterMap.1 hx
  exact hb.2 x (List.mem_of_getElem? hi)
theorem HBf.tail (hb : HBf h L) (n : Nat) : HBf h (L.drop n) :=
 ⟨List.Nodup.sublist ((List.drop_sublist n L).map _) hb.1, fun x hx => hb.2 x (List.mem_of_mem_drop hx)⟩
end
def HB (h : Heap) (L : BL) : Prop := HBf h L.flatten
theorem seg_pos : ∀ {L : BL} {p : Nat} {e : B1}, L[p]? = some [e] → ∃ q, L.flatten[q]? = some e ∧ (∀ e', (L.set p [e']).flatten = L.flatten.set q e') ∧ (L.eraseIdx p).flatten = L.flatten.eraseIdx q
 | [], p, e, h => by simp at h
 | s :: L, 0, e, h => by
  simp only [List.getElem?_cons_zero, Option.some.injEq] at h
  subst h
  exact ⟨0, rfl, fun e' => rfl, rfl⟩
 | s :: L, p + 1, e, h => by
  obtain ⟨q, h1, h2, h3⟩ := seg_pos (L := L) (p := p) (e := e) (by simpa using h)
  refine ⟨s.length + q, ?_, fun e' => ?_, ?_⟩
  ·rw [List.flatten_cons, List.getElem?_append_right (by omega), Nat.add_sub_cancel_left, h1]
  ·rw [List.set_cons_succ, List.flatten_cons, h2, List.flatten_cons, List.set_append_right _ _ (by omega), Nat.add_sub_cancel_left]
  ·rw [List.eraseIdx_cons_succ, List.flatten_cons, h3, List.flatten_cons, List.eraseIdx_append_of_length_le (by omega), Nat.add_sub_cancel_left]
section
variable {h : Heap} {L : BL} {p k sz : Nat} {es : List (List C)}
theorem seg_mem {s : List B1} (hp : L[p]? = some s) {x : B1} (hx : x ∈ s) : x ∈ L.flatten := List.mem_flatten.2 ⟨s, List.mem_of_getElem? hp, hx⟩
theorem HB.get (hb : HB h L) (hp : L[p]? = some [(k, sz, es)]) : getBlk h k = some (sz, es) := hb.2 (k, sz, es) (seg_mem hp (List.mem_singleton.2 rfl))
theorem HB.lt (hb : HB h L) {x} (hx : x ∈ L.flatten) : x.1 < h.length := HBf.lt hb hx
theorem HB.new (hb : HB h L) (sz : Nat) (es : List (List C)) : HB (putBlk h h.length (.own sz es)) ([(h.length, sz, es)] :: L) := HBf.new hb sz es
theorem HB.set (hb : HB h L) (hp : L[p]? = some [(k, sz, es)]) (sz' : Nat) (es' : List (List C)) : HB (putBlk h k (.own sz' es')) (L.set p [(k, sz', es')]) := by
 obtain ⟨q, h1, h2, _⟩ := seg_pos hp
 unfold HB
 rw [h2]
 exact HBf.set hb h1 sz' es'
def Apart (s t : List B1) : Prop := ∀ x ∈ s, ∀ y ∈ t, x.1 ≠ y.1
theorem Apart.symm {s t : List B1} (h : Apart s t) : Apart t s := fun x hx y hy e => h y hy x hx e.symm
theorem keys_pair (hn : (L.flatten.map (·.1)).Nodup) : (∀ s ∈ L, s.Pairwise fun x y => x.1 ≠ y.1) ∧ L.Pairwise Apart := by
 have h1 : L.flatten.Pairwise fun x y => x.1 ≠ y.1 := List.pairwise_map.1 hn
 exact List.pairwise_flatten.1 h1
theorem keys_at (hn : (L.flatten.map (·.1)).Nodup) {i j : Nat} {s t : List B1} (hi : L[i]? = some s) (hj : L[j]? = some t) (hij : i ≠ j) : Apart s t := by
 have hp := List.pairwise_iff_getElem.1 (keys_pair hn).2
 obtain ⟨i1, rfl⟩ := List.getElem?_eq_some_iff.1 hi
 obtain ⟨j1, rfl⟩ := List.getElem?_eq_some_iff.1 hj
 rcases Nat.lt_or_gt_of_ne hij with hlt | hlt
 ·exact hp i j i1 j1 hlt
 ·exact (hp j i j1 i1 hlt).symm
theorem HB.sub (hb : HB h L) (is : List Nat) (hn : is.Nodup) {L2 : BL} (h2 : is.filterMap (fun i => L[i]?) = L2) : HB h L2 := by
 subst h2
 have hk := keys_pair hb.1
 refine ⟨List.pairwise_map.2 (List.pairwise_flatten.2 ⟨fun s hs => ?_, ?_⟩), fun x hx => ?_⟩
 ·obtain ⟨i, _, hi⟩ := List.mem_filterMap.1 hs
  exact hk.1 s (List.mem_of_getElem? hi)
 ·rw [List.pairwise_filterMap]
  refine hn.imp fun {i j} hij s hs t ht => ?_
  exact keys_at hb.1 hs ht hij
 ·obtain ⟨s, hs, hx⟩ := List.mem_flatten.1 hx
  obtain ⟨i, _, hi⟩ := List.mem_filterMap.1 hs
  exact hb.2 x (seg_mem hi hx)
end
def ov (nt : Nat) (f : Nat → D) : Operand → Option D
 | .tmp i => cond (Nat.blt i nt) (some (f i)) none
 | .const v => constD v
 | .global _ => none
 | .func k => some (mk (.func (.func k) #[] #[]))
theorem ov_eq (nt : Nat) (f : Nat → D) (x : Operand) : opndG (slots (tab nt f)) x = ov nt f x := by
 cases x with
 | tmp i =>
  show (tab nt f)[i]? = cond (Nat.blt i nt) (some (f i)) none
  rw [tab_get]
  cases h2 : Nat.blt i nt with
  | true => rw [if_pos (by simpa using h2)]; rfl
  | false => rw [if_neg (fun h => by have : Nat.blt i nt = true := (by simpa using h); rw [h2] at this; exact absurd this (by simp))]; rfl
 | _ => rfl
theorem ov_fun (nt : Nat) (f : Nat → D) : opndG (slots (tab nt f)) = ov nt f := funext (ov_eq nt f)
def wb (w : Bool) : Option D → Option Bool
 | some (.one (.p _ (.v (.bool b)))) => some (b == w)
 | some (.tup []) => some false
 | _ => none
theorem wb_eq (w : Bool) (z : Option D) (b : Bool) (h : wb w z = some b) : (z.bind fun d => match d with
   | .one (.p _ (.v (.bool b))) => some (b == w)
   | .tup [] => some false
   | _ => none) = some b := by
 revert h
 cases z with
 | none => exact fun h => by simp [wb] at h
 | some x =>
  cases x with
  | one c =>
   cases c with
   | p fr t => cases t with
    | v z => cases z <;> exact fun h => h
    | s _ _ _ => exact fun h => h
   | _ => exact fun h => h
  | agg _ => exact fun h => h
  | tup ds => cases ds <;> exact fun h => h
def wantF (ops : Array Oper) (o : Oper) (nt : Nat) (f : Nat → D) : Option Bool :=
 match o.guard with
 | none => some true
 | some (j, w) =>
  match (ops.toList[j]?).bind fun g => g.dst with
  | some d => wb w (ov nt f (.tmp d))
  | none => none
theorem wantF_eq {ops : Array Oper} {o : Oper} {nt : Nat} {f : Nat → D} {b : Bool} (h : wantF ops o nt f = some b) : ∃ g, gOf ops o = some g ∧ wantG (slots (tab nt f)) g = some b := by
 unfold wantF at h
 unfold gOf
 cases hg : o.guard with
 | none => rw [hg] at h; simp only [Option.some.injEq] at h; subst h; exact ⟨none, rfl, rfl⟩
 | some q =>
  obtain ⟨j, w⟩ := q
  rw [hg] at h
  simp only at h ⊢
  cases hd : (ops.toList[j]?).bind fun g => g.dst with
  | none => rw [hd] at h; simp at h
  | some d =>
   rw [hd] at h
   refine ⟨some (d, w), by simp, ?_⟩
   have he : slots (tab nt f) d = ov nt f (.tmp d) := ov_eq nt f (.tmp d)
   have := wb_eq w _ b h
   rw [← he] at this
   exact this
def PS (E : Env) (n nt : Nat) (f : Nat → D) (L : BL) (op : Op) (v : D) : Prop := ∀ (h : Heap) (nid : Nat), HB h L → stepG E (cpR E n) none nid op (slots (tab nt f)) h = some ⟨v, []⟩
def PN (E : Env) (n nt : Nat) (f : Nat → D) (L : BL) (op : Op) (v : Nat → D) (sz : Nat) (es : List (List C)) : Prop := ∀ (h : Heap) (nid : Nat), HB h L → stepG E (cpR E n) none nid op (slots (tab nt f)) h = some ⟨v nid, [(nid, .own sz es)]⟩
def PW (E : Env) (n nt : Nat) (f : Nat → D) (L : BL) (op : Op) (v : D) (p k sz : Nat) (es : List (List C)) : Prop := (∃ x, L[p]? = some [(k, x)]) ∧ ∀ (h : Heap) (nid : Nat), HB h L → stepG E (cpR E n) none nid op (slots (tab nt f)) h = some ⟨v, [(k, .own sz es)]⟩
def OpsW (E : Env) (y : Nat → YldP) (n : Nat) (ops : Array Oper) (l : List Oper) (K : St → Prop) (s : St) : Prop := ∃ s', (∃ M, ∀ m, M ≤ m → evOps E (callersY E y m n).1 (callersY E y m n).2 ops l s = some s') ∧ K s'
theorem opsW_nil {E : Env} {y : Nat → YldP} {n : Nat} {ops : Array Oper} {K : St → Prop} {s : St} (h : K s) : OpsW E y n ops [] K s := ⟨s, ⟨0, fun _ _ => rfl⟩, h⟩
theorem opsW_cons {E : Env} {y : Nat → YldP} {n : Nat} {ops : Array Oper} {o : Oper} {r : List Oper} {K : St → Prop} {s s1 : St} (h1 : ∃ M, ∀ m, M ≤ m → evOp E (callersY E y m n).1 (callersY E y m n).2 ops o s = some s1) (h2 : OpsW E y n ops r K s1) : OpsW E y n ops (o :: r) K s := by
 obtain ⟨M1, h1⟩ := h1
 obtain ⟨s', ⟨M2, h2⟩, h3⟩ := h2
 exact ⟨s', ⟨max M1 M2, fun m hm => by simp only [evOps, h1 m (by omega), Option.bind_eq_bind, Option.bind_some]; exact h2 m (by omega)⟩, h3⟩
theorem opsW_step {E : Env} {y : Nat → YldP} {n : Nat} {ops : Array Oper} {o : Oper} {r : List Oper} {K : St → Prop} {s s1 : St} {e : Eff} (hs : step E (cpR E n) ops s.h.length o (slots s.t) s.h = some e) (hp : put o s e = some s1) (h2 : OpsW E y n ops r K s1) : OpsW E y n ops (o :: r) K s := by
 obtain ⟨M, hM⟩ := step_evt hs
 refine opsW_cons ⟨M, fun m hm => ?_⟩ h2
 unfold evOp
 rw [callersY_fst, hM m hm]
 exact hp
theorem wpc_opsW {E : Env} {y : Nat → YldP} {n : Nat} {id : Nat} {l : List Oper} {Q : Ex → St → Prop} {s : St} (h : OpsW E y n l.toArray l (Q .normal) s) : WpC E y n (.region id l.toArray false) Q s := by
 obtain ⟨s', ⟨M, h1⟩, h2⟩ := h
 exact ⟨.normal, s', ⟨M, fun m hm => by simp only [evC, Bool.false_eq_true, if_false, h1 m hm]; rfl⟩, h2⟩
section
variable {E : Env} {y : Nat → YldP} {n : Nat} {ops : Array Oper} {Q : St → Prop} {o : Oper} {r : List Oper} {nt : Nat} {f : Nat → D} {H H' : Heap} {v : D} {u : List (Nat × Blk)} {d : Nat} {g : Option (Tmp × Bool)}
theorem opsV_put (hg : gOf ops o = some g) (hd : o.dst = some d) (hn : d < nt) (hs : stepG E (cpR E n) g H.length o.op (slots (tab nt f)) H = some ⟨v, u⟩) (hu : Ev.apply H u = H') (h : OpsW E y n ops r Q { t := tab nt (upd f d v), h := H' }) : OpsW E y n ops (o :: r) Q { t := tab nt f, h := H } := by
 subst hu
 rw [← stepG_eq hg] at hs
 exact opsW_step (s1 := { t := tab nt (upd f d v), h := Ev.apply H u }) hs (by simp only [put, hd, setT, tab_len, hn, if_true, tab_set, Option.bind_eq_bind, Option.bind_some]) h
theorem opsV_none (hg : gOf ops o = some g) (hd : o.dst = none) (hs : stepG E (cpR E n) g H.length o.op (slots (tab nt f)) H = some ⟨v, u⟩) (hu : Ev.apply H u = H') (h : OpsW E y n ops r Q { t := tab nt f, h := H' }) : OpsW E y n ops (o :: r) Q { t := tab nt f, h := H } := by
 subst hu
 rw [← stepG_eq hg] at hs
 exact opsW_step (s1 := { t := tab nt f, h := Ev.apply H u }) hs (by simp only [put, hd, setT, Option.bind_eq_bind, Option.bind_some]) h
end
section
variable {E : Env} {y : Nat → YldP} {n nt : Nat} {ops : Array Oper} {o : Oper} {r : List Oper} {K : St → Prop} {f : Nat → D} {L : BL} {d : Nat} {Q : Ex → St → Prop}
theorem guard_on {g : Option (Tmp × Bool)} {nid : Nat} {op : Op} {t : Tmp → Option D} {H : Heap} {cp : CallP} (h : wantG t g = some true) : stepG E cp g nid op t H = stepG E cp none nid op t H := by
 unfold stepG; rw [h]; rfl
theorem guard_off {g : Option (Tmp × Bool)} {nid : Nat} {op : Op} {t : Tmp → Option D} {H : Heap} {cp : CallP} (h : wantG t g = some false) : stepG E cp g nid op t H = some ⟨undefD, []⟩ := by
 unfold stepG; rw [h]; rfl
theorem blt_lt {a b : Nat} (h : Nat.blt a b = true) : a < b := by simpa using h
theorem HB.mask {h : Heap} (hb : HB h L) (M : List Nat) {A : BL} (is : List Nat) (hn : is.Nodup) (hA : is.filterMap (fun i => L[i]?) = A) (hm : ∀ x ∈ A.flatten, x.1 ∉ M) : HB (mask h M) A := by
 have h1 := hb.sub is hn hA
 refine ⟨h1.1, fun x hx => ?_⟩
 rw [getBlk_mask, if_neg (hm x hx)]
 exact h1.2 x hx
section
variable {i w b : Nat} {O : List (List Nat)} {N : List (Bool × List Nat)} {R : List (List Nat)} {A : BL}
theorem HB.put {h : Heap} {L : BL} {k : Nat} (hb : HB h L) (sz : Nat) (es : List (List C)) (hk : ∀ x ∈ L.flatten, x.1 ≠ k) : HB (putBlk h k (.own sz es)) ([(k, sz, es)] :: L) := by
 refine ⟨?_, fun x hx => ?_⟩
 ·show (k :: L.flatten.map (·.1)).Nodup
  rw [List.nodup_cons]
  refine ⟨fun hm => ?_, hb.1⟩
  obtain ⟨x, hx, he⟩ := List.mem_map.1 hm
  exact hk x hx he
 ·rcases List.mem_cons.1 (show x ∈ (k, sz, es) :: L.flatten from hx) with rfl | hx
  ·rw [getBlk_put, if_pos rfl]
  ·rw [getBlk_put, if_neg (hk x hx)]; exact hb.2 x hx
end
theorem hkn {z : Nat} : ∀ x ∈ ([] : BL).flatten, x.1 ≠ z := fun x hx => by simp at hx
end
section
variable {A R : Type}
def loopN (b : A → Option (A ⊕ R)) : Nat → A → Option R
 | 0, _ => none
 | m + 1, a =>
  match b a with
  | none => none
  | some (.inl a') => loopN b m a'
  | some (.inr r) => some r
theorem loopN_mono (b : A → Option (A ⊕ R)) : ∀ (m : Nat) (a : A) (r : R), loopN b m a = some r → ∀ k, m ≤ k → loopN b k a = some r
 | 0, a, r, h, k, hk => by simp [loopN] at h
 | m + 1, a, r, h, k, hk => by
  match k, hk with
  | k + 1, hk =>
   unfold loopN at h ⊢
   cases hb : b a with
   | none => rw [hb] at h; simp at h
   | some x =>
    rw [hb] at h
    cases x with
    | inl a' => exact loopN_mono b m a' r h k (by omega)
    | inr r' => exact h
open Classical in
noncomputable def loopO (b : A → Option (A ⊕ R)) (a : A) : Option R := if h : ∃ r m, loopN b m a = some r then some h.choose else none
theorem loopO_iff {b : A → Option (A ⊕ R)} {a : A} {r : R} : loopO b a = some r ↔ ∃ m, loopN b m a = some r := by
 unfold loopO
 constructor
 ·intro h
  split at h
  ·rename_i hx
   obtain ⟨m, hm⟩ := hx.choose_spec
   exact ⟨m, by rw [hm]; exact h⟩
  ·simp at h
 ·rintro ⟨m, hm⟩
  have hx : ∃ r m, loopN b m a = some r := ⟨r, m, hm⟩
  rw [dif_pos hx]
  obtain ⟨m', hm'⟩ := hx.choose_spec
  have h1 := loopN_mono b m a r hm (max m m') (by omega)
  have h2 := loopN_mono b m' a _ hm' (max m m') (by omega)
  rw [h2] at h1
  exact h1
theorem loopO_done {b : A → Option (A ⊕ R)} {a : A} {r : R} (h : b a = some (.inr r)) : loopO b a = some r := loopO_iff.2 ⟨1, by simp [loopN, h]⟩
theorem loopO_step {b : A → Option (A ⊕ R)} {a a' : A} (h : b a = some (.inl a')) : loopO b a = loopO b a' := by
 have key : ∀ r, loopO b a = some r ↔ loopO b a' = some r := fun r => by
  rw [loopO_iff, loopO_iff]
  constructor
  ·rintro ⟨m, hm⟩
   match m with
   | 0 => simp [loopN] at hm
   | m + 1 => exact ⟨m, by simpa [loopN, h] using hm⟩
  ·rintro ⟨m, hm⟩
   exact ⟨m + 1, by simpa [loopN, h] using hm⟩
 cases h1 : loopO b a' with
 | none =>
  cases h2 : loopO b a with
  | none => rfl
  | some r => rw [(key r).1 h2] at h1; exact absurd h1 (by simp)
 | some r => exact (key r).2 h1
theorem wpc_loopO {E : Env} {y : Nat → YldP} {n : Nat} {c : Code} (b : A → Option (A ⊕ R)) (I : A → St → Prop) (J : R → Ex → St → Prop) (hN : ∀ r s, ¬ J r .normal s)
  (hb : ∀ a out s, b a = some out → I a s → WpC E y n c (fun e s' => match out with
   | .inl a' => e = .normal ∧ I a' s'
   | .inr r => J r e s') s) : ∀ a r s, loopO b a = some r → I a s → WpC E y n (.loop c) (J r) s := by
 have key : ∀ k a r s, loopN b k a = some r → I a s → ∃ e s', (∃ M, ∀ m, M ≤ m → ∀ q, M ≤ q → evLoop (evC E (callersY E y m n).1 (callersY E y m n).2 m c) q s = some (e, s')) ∧ J r e s' := by
  intro k
  induction k with
  | zero => intro a r s h; simp [loopN] at h
  | succ k ih =>
   intro a r s h hs
   unfold loopN at h
   cases hba : b a with
   | none => rw [hba] at h; simp at h
   | some out =>
    rw [hba] at h
    obtain ⟨e1, s1, ⟨M1, h1⟩, h2⟩ := hb a out s hba hs
    cases out with
    | inl a' =>
     obtain ⟨rfl, h3⟩ := h2
     obtain ⟨e2, s2, ⟨M2, h5⟩, h6⟩ := ih a' r s1 h h3
     refine ⟨e2, s2, ⟨max M1 M2 + 1, fun m hm q hq => ?_⟩, h6⟩
     match q, hq with
     | q + 1, hq => simp [evLoop, h1 m (by omega), h5 m (by omega) q (by omega)]
    | inr r' =>
     simp only [Option.some.injEq] at h
     subst h
     refine ⟨e1, s1, ⟨M1 + 1, fun m hm q hq => ?_⟩, h2⟩
     match q, hq with
     | q + 1, hq =>
      cases e1 with
      | normal => exact absurd h2 (hN _ _)
      | exit id => simp [evLoop, h1 m (by omega)]
      | ret => simp [evLoop, h1 m (by omega)]
 intro a r s h hs
 obtain ⟨k, hk⟩ := loopO_iff.1 h
 obtain ⟨e, s', ⟨M, h1⟩, h2⟩ := key k a r s hk hs
 exact ⟨e, s', ⟨M, fun m hm => by simpa [evC] using h1 m hm m hm⟩, h2⟩
def JX {X Up KT : Type} (nt id : Nat) (S : X → KT → (Nat → D) → Nat → D) (SL : X → KT → BL) (G : Up → Ex → St → Prop) : X ⊕ Up → Ex → St → Prop
 | .inl x, e, s => e = .exit id ∧ ∃ k g, s.t = tab nt (S x k g) ∧ HB s.h (SL x k)
 | .inr u, e, s => e = .ret ∧ G u .ret s
section
variable {X Up KT : Type} {nt id : Nat} {S : X → KT → (Nat → D) → Nat → D} {SL : X → KT → BL} {G : Up → Ex → St → Prop}
theorem JX_n : ∀ r s, ¬ JX nt id S SL G r .normal s := fun r s h => by
 cases r with
 | inl x => exact absurd h.1 (by simp)
 | inr u => exact absurd h.1 (by simp)
end
end
def atS {α : Type} (w : Nat) (s : Sl α) (i : Int) : Option α := if 0 ≤ i ∧ s.sz = w then s.l[i.toNat]? else none
theorem atS_some {α : Type} {w : Nat} {s : Sl α} {i : Int} {x : α} (h : atS w s i = some x) : 0 ≤ i ∧ s.sz = w ∧ s.l[i.toNat]? = some x := by
 unfold atS at h
 split at h
 ·rename_i hc; exact ⟨hc.1, hc.2, h⟩
 ·simp at h
def atL {α : Type} (l : List α) (i : Int) : Option α := if 0 ≤ i then l[i.toNat]? else none
theorem atL_some {α : Type} {l : List α} {i : Int} {x : α} (h : atL l i = some x) : 0 ≤ i ∧ l[i.toNat]? = some x := by
 unfold atL at h
 split at h
 ·rename_i hc; exact ⟨hc, h⟩
 ·simp at h
def cpL {α : Type} (l m : List α) : Option (List α) := if m.length ≤ l.length then some (m ++ l.drop m.length) else none
theorem cpL_some {α : Type} {l m r : List α} (h : cpL l m = some r) : m.length ≤ l.length ∧ m ++ l.drop m.length = r := by
 unfold cpL at h
 split at h
 ·exact ⟨‹_›, Option.some.inj h⟩
 ·cases h
theorem cpL_len {α : Type} {l m r : List α} (h : cpL l m = some r) : r.length = l.length := by
 obtain ⟨h1, rfl⟩ := cpL_some h
 simp; omega
def app {α : Type} (l m : List α) : Option (List α) := if l.length + m.length ≤ bound then some (l ++ m) else none
theorem app_some {α : Type} {l m x : List α} (h : app l m = some x) : l.length + m.length ≤ bound ∧ x = l ++ m := by
 unfold app at h
 split at h
 ·rename_i hc; exact ⟨hc, (Option.some.inj h).symm⟩
 ·simp at h
end Ev
end Go.Proofs.Ytcnfdbkolbgbcaa
end
section
namespace Go.Proofs.Ytcnfdbkolbgbcaa
namespace Ev
open Go Go.RowKit
set_option linter.unusedVariables false
set_option linter.unusedSimpArgs false
section
variable {E : Env} {y : Nat → YldP} {n nt : Nat} {f : Nat → D} {L : BL}
theorem q_move {x : Operand} {v : D} (hx : ov nt f x = some v) : PS E n nt f L (.move x) v := fun h nid hb => by
 rw [s_move, ov_eq, hx]; rfl
theorem q_assign {x : Operand} {v : D} (hx : ov nt f x = some v) : PS E n nt f L (.assign x) v := fun h nid hb => by
 rw [s_assign, ov_eq, hx]; rfl
theorem q_bin {op : BinOp} {ty sh : TypeId} {x y : Operand} {fa fb : Bool} {ka kb : IntKind} {a b : Int} {v : Value} (hx : ov nt f x = some (.one (.p fa (.v (.int ka a))))) (hy : ov nt f y = some (.one (.p fb (.v (.int kb b)))))
  (hp : pureOf E.P (do eqGuard op ty x y (.int ka a) (.int kb b); binOp op ty (.int ka a) (.int kb b)) = some v) (h1 : one1 v = true) : PS E n nt f L (.binOp op ty x y sh) (mk v) := fun h nid hb => by
 rw [s_bin, ov_eq, hx, ov_eq, hy]
 refine Eq.trans (b := kBin2 E.P E.ti op ty x y (.one (.p fa (.v (.int ka a)))) (.one (.p fb (.v (.int kb b))))) rfl ?_
 rw [kB_int, hp]
 show mkO v = _
 unfold mkO; rw [if_pos h1]
theorem kB_bool {P : Program} {ti : TypeId → Option TI} {op : BinOp} {ty : TypeId} {x y : Operand} {fr fr' : Bool} {a b : Bool} :
  kBin2 P ti op ty x y (.one (.p fr (.v (.bool a)))) (.one (.p fr' (.v (.bool b)))) = (pureOf P (do eqGuard op ty x y (.bool a) (.bool b); binOp op ty (.bool a) (.bool b))).bind mkO := rfl
theorem q_binB {op : BinOp} {ty sh : TypeId} {x y : Operand} {fa fb : Bool} {a b : Bool} {v : Value} (hx : ov nt f x = some (.one (.p fa (.v (.bool a))))) (hy : ov nt f y = some (.one (.p fb (.v (.bool b)))))
  (hp : pureOf E.P (do eqGuard op ty x y (.bool a) (.bool b); binOp op ty (.bool a) (.bool b)) = some v) (h1 : one1 v = true) : PS E n nt f L (.binOp op ty x y sh) (mk v) := fun h nid hb => by
 rw [s_bin, ov_eq, hx, ov_eq, hy]
 refine Eq.trans (b := kBin2 E.P E.ti op ty x y (.one (.p fa (.v (.bool a)))) (.one (.p fb (.v (.bool b))))) rfl ?_
 rw [kB_bool, hp]
 show mkO v = _
 unfold mkO; rw [if_pos h1]
theorem kB_agg {P : Program} {ti : TypeId → Option TI} {op : BinOp} {ty : TypeId} {x y : Operand} {a b : List C} : kBin2 P ti op ty x y (.agg a) (.agg b) = (plain (.agg a)).bind fun va => (plain (.agg b)).bind fun vb => (pureOf P (do eqGuard op ty x y va vb; binOp op ty va vb)).bind mkO := rfl
theorem q_binA {op : BinOp} {ty sh : TypeId} {x y : Operand} {a b : List C} {va vb v : Value} (hx : ov nt f x = some (.agg a)) (hy : ov nt f y = some (.agg b)) (ha : plain (.agg a) = some va) (hb' : plain (.agg b) = some vb)
  (hp : pureOf E.P (do eqGuard op ty x y va vb; binOp op ty va vb) = some v) (h1 : one1 v = true) : PS E n nt f L (.binOp op ty x y sh) (mk v) := fun h nid hb => by
 rw [s_bin, ov_eq, hx, ov_eq, hy]
 refine Eq.trans (b := kBin2 E.P E.ti op ty x y (.agg a) (.agg b)) rfl ?_
 rw [kB_agg, ha, hb']
 simp only [Option.bind_some]
 rw [hp]
 show mkO v = _
 unfold mkO; rw [if_pos h1]
theorem q_not {ty : TypeId} {x : Operand} {fr b : Bool} (hx : ov nt f x = some (.one (.p fr (.v (.bool b))))) : PS E n nt f L (.unOp .not ty x) (bD (!b)) := fun h nid hb => by
 show ((opndG (slots (tab nt f)) x).bind fun d => (plain d).bind fun v => (pureOf E.P (Op.unary .not v)).bind mkO) = _
 rw [ov_eq, hx]; rfl
theorem q_neg {ty : TypeId} {x : Operand} {fr : Bool} {k : IntKind} {a : Int} (hx : ov nt f x = some (.one (.p fr (.v (.int k a))))) : PS E n nt f L (.unOp .neg ty x) (iD k (k.wrap (0 - a))) := fun h nid hb => by
 show ((opndG (slots (tab nt f)) x).bind fun d => (plain d).bind fun v => (pureOf E.P (Op.unary .neg v)).bind mkO) = _
 rw [ov_eq, hx]; rfl
theorem q_conv {src dst : TypeId} {x : Operand} {fr : Bool} {k : IntKind} {a : Int} {v : Value} (hx : ov nt f x = some (.one (.p fr (.v (.int k a))))) (hp : pureOf E.P (Go.convert src dst (.int k a)) = some v) (h1 : one1 v = true) : PS E n nt f L (.convert src dst x) (mk v) := fun h nid hb => by
 show ((opndG (slots (tab nt f)) x).bind fun d => (plain d).bind fun v => match v with
  | .int .. => (pureOf E.P (Go.convert src dst v)).bind mkO
  | _ => none) = _
 rw [ov_eq, hx]
 show (pureOf E.P (Go.convert src dst (.int k a))).bind mkO = _
 rw [hp]
 show mkO v = _
 unfold mkO; rw [if_pos h1]
theorem q_fieldP {ty : TypeId} {x : Operand} {m k i j off sz : Nat} {ag : Bool} (hx : ov nt f x = some (.one (.ptr k i j))) (ht : fieldAt E.ti ty m = some (off, sz, ag)) (hz : Nat.beq sz 0 = false) : PS E n nt f L (.fieldAddr ty x m) (.one (.ptr k i (j + off))) := fun h nid hb => by
 rw [s_field, ov_eq, hx, ht]
 show (if sz = 0 then none else _) = _
 rw [if_neg (Nat.ne_of_beq_eq_false hz)]
theorem q_fieldI {ty : TypeId} {x : Operand} {m i j off sz s : Nat} {fr : Bool} {l : List (List T)} {ag : Bool} (hx : ov nt f x = some (.one (.iptr fr s l i j))) (ht : fieldAt E.ti ty m = some (off, sz, ag)) (hz : Nat.beq sz 0 = false) : PS E n nt f L (.fieldAddr ty x m) (.one (.iptr fr s l i (j + off))) := fun h nid hb => by
 rw [s_field, ov_eq, hx, ht]
 show (if sz = 0 then none else _) = _
 rw [if_neg (Nat.ne_of_beq_eq_false hz)]
theorem q_fieldV {ty : TypeId} {x : Operand} {m off sz : Nat} {cs c2 : List C} {ag : Bool} {v : D} (hx : ov nt f x = some (.agg cs)) (ht : fieldAt E.ti ty m = some (off, sz, ag)) (hc : cut cs off (cond ag sz 1) = some c2) (hv : ofCells ag c2 = some v) : PS E n nt f L (.field ty x m) v := fun h nid hb => by
 show ((E.ti ty).bind fun t => (fieldOf t m).bind fun fd => (E.ti fd.type).bind fun ft => (opndG (slots (tab nt f)) x).bind fun d => match d with
  | .agg cs => (cut cs fd.offset (if isAggD ft.desc then ft.size else 1)).bind fun c => (ofCells (isAggD ft.desc) c).bind fun v => some (⟨v, []⟩ : Eff)
  | _ => none) = _
 unfold fieldAt at ht
 simp only [Option.bind_eq_some_iff, Option.some.injEq, Prod.mk.injEq] at ht
 obtain ⟨t, h1, fd, h2, ft, h3, rfl, rfl, rfl⟩ := ht
 rw [h1, ov_eq, hx]
 simp only [Option.bind_some, h2, h3]
 have hc' : cut cs fd.offset (if isAggD ft.desc then ft.size else 1) = some c2 := by
  rw [← hc]; cases isAggD ft.desc <;> rfl
 rw [hc']
 simp only [Option.bind_some, hv]
theorem cond_if {α : Type} (b : Bool) (x y : α) : (if b = true then x else y) = cond b x y := by cases b <;> rfl
theorem q_loadP {ty : TypeId} {x : Operand} {k i j sz bz : Nat} {ag : Bool} {es : List (List C)} {e cs : List C} {v : D} (p : Nat) (hx : ov nt f x = some (.one (.ptr k i j))) (hz : sizeAt E.ti ty = some (sz, ag)) (hp : L[p]? = some [(k, bz, es)]) (he : es[i]? = some e) (hc : cut e j (cond ag sz 1) = some cs) (hv : ofCells ag cs = some v) : PS E n nt f L (.load ty x) v := fun h nid hb => by
 rw [s_load, ov_eq, hx, hz]
 show kOut (kOf ag (kCut j (if ag then sz else 1) (kRow i (getBlk h k)))) = _
 rw [hb.get hp, cond_if]
 show kOut (kOf ag (kCut j (cond ag sz 1) es[i]?)) = _
 rw [he]
 show kOut (kOf ag (cut e j (cond ag sz 1))) = _
 rw [hc]
 show kOut (ofCells ag cs) = _
 rw [hv]; rfl
theorem q_loadI {ty : TypeId} {x : Operand} {i j sz s : Nat} {fr ag : Bool} {l : List (List T)} {e : List T} {cs : List C} {v : D} (hx : ov nt f x = some (.one (.iptr fr s l i j))) (hz : sizeAt E.ti ty = some (sz, ag)) (he : l[i]? = some e) (hc : cut (e.map (pC fr)) j (cond ag sz 1) = some cs) (hv : ofCells ag cs = some v) : PS E n nt f L (.load ty x) v := fun h nid hb => by
 rw [s_load, ov_eq, hx, hz]
 show kOut (kOf ag (kCut j (if ag then sz else 1) (kIn fr l[i]?))) = _
 rw [he, cond_if]
 show kOut (kOf ag (cut (e.map (pC fr)) j (cond ag sz 1))) = _
 rw [hc]
 show kOut (ofCells ag cs) = _
 rw [hv]; rfl
theorem q_store {ty : TypeId} {a x : Operand} {k i j sz bz : Nat} {ag : Bool} {es es' : List (List C)} {e e' cs : List C} {v : D} (p : Nat) (ha : ov nt f a = some (.one (.ptr k i j))) (hx : ov nt f x = some v) (hd : dcells v = some cs) (hz : sizeAt E.ti ty = some (sz, ag)) (hs : Nat.beq cs.length sz = true) (hp : L[p]? = some [(k, bz, es)]) (he : es[i]? = some e) (ht : patch e j cs = some e') (hes : es.set i e' = es') : PW E n nt f L (.store ty a x) undefD p k bz es' := ⟨⟨_, hp⟩, fun h nid hb => by
 rw [s_store, ov_eq, ha, ov_eq, hx, hz]
 show kPut k i j sz (dcells v) (getBlk h k) = _
 rw [hd, hb.get hp]
 show (if cs.length = sz then kPut2 k i bz es (kPatch j cs es[i]?) else none) = _
 rw [if_pos (Nat.eq_of_beq_eq_true hs), he]
 show kPut2 k i bz es (patch e j cs) = _
 rw [ht]
 subst hes
 rfl⟩
theorem q_alloc {ty : TypeId} {t : TI} {row : List C} {sz : Nat} (ht : E.ti ty = some t) (hr : zrow t = row) (hs : t.size = sz) : PN E n nt f L (.alloc ty) (fun k => .one (.ptr k 0 0)) sz [row] := fun h nid hb => by
 show ((E.ti ty).bind fun t => some (⟨.one (.ptr nid 0 0), [(nid, .own t.size [zrow t])]⟩ : Eff)) = _
 rw [ht]; subst hr hs; rfl
theorem q_box {ty : TypeId} {x : Operand} {t : TI} {d : D} {cs : List C} {sz : Nat} (ht : E.ti ty = some t) (hx : ov nt f x = some d) (hc : dcells d = some cs) (hs : cs.length = sz) : PN E n nt f L (.box ty x) (fun k => .one (.ptr k 0 0)) sz [cs] := fun h nid hb => by
 show ((E.ti ty).bind fun t => (opndG (slots (tab nt f)) x).bind fun d => (dcells d).bind fun cs => some (⟨.one (.ptr nid 0 0), [(nid, .own cs.length [cs])]⟩ : Eff)) = _
 rw [ht, ov_eq, hx]
 simp only [Option.bind_some, hc]
 subst hs; rfl
def partsOf (nt : Nat) (f : Nat → D) (l : List (Nat × Operand)) : Option (List (Nat × D)) := l.mapM fun ((i, x) : Nat × Operand) => (ov nt f x).map fun d => (i, d)
theorem q_build {ty : TypeId} {parts : Array (Nat × Operand)} {t : TI} {ps : List (Nat × D)} {pl : Nat → Option (Nat × Nat)} {cs : List C} (ht : E.ti ty = some t) (hps : partsOf nt f parts.toList = some ps) (hpl : places E.ti t = some pl) (hf : fill pl (zrow t) ps = some cs) : PS E n nt f L (.build ty parts) (.agg cs) := fun h nid hb => by
 show ((E.ti ty).bind fun t => (parts.toList.mapM fun ((i, x) : Nat × Operand) => (opndG (slots (tab nt f)) x).map fun d => (i, d)).bind fun ps => (places E.ti t).bind fun pl => (fill pl (zrow t) ps).bind fun cs => some (⟨.agg cs, []⟩ : Eff)) = _
 rw [ht, ov_fun]
 simp only [Option.bind_some]
 have h1 : (parts.toList.mapM fun ((i, x) : Nat × Operand) => (ov nt f x).map fun d => (i, d)) = some ps := hps
 simp only [h1, Option.bind_some, hpl, hf]
theorem elemAt_some {ti : TypeId → Option TI} {ty z : Nat} (h : elemAt ti ty = some z) : ∃ t e te, ti ty = some t ∧ elemOf t = some e ∧ ti e = some te ∧ te.size = z := by
 unfold elemAt at h
 simp only [Option.bind_eq_some_iff, Option.some.injEq] at h
 obtain ⟨t, h1, e, h2, te, h3, h4⟩ := h
 exact ⟨t, e, te, h1, h2, h3, h4⟩
theorem q_bslice {ty ety : TypeId} {len z : Nat} {parts : Array (Nat × Operand)} {t te : TI} {ps : List (Nat × D)} {cs : List C} {es : List (List C)} (ht : E.ti ty = some t) (he : elemOf t = some ety) (hte : E.ti ety = some te) (hz : te.size = z) (hps : partsOf nt f parts.toList = some ps) (hf : fill (fun i => some (i * z, z)) (zflat te len) ps = some cs) (hr : rowsOf z cs len = some es) (hl : Nat.ble (len * z) 16777216 = true) : PN E n nt f L (.buildSlice ty len parts) (fun k => .one (.own k 0 len)) z es := fun h nid hb => by
 show ((E.ti ty).bind fun t => (elemOf t).bind fun x => (E.ti x).bind fun e => (parts.toList.mapM fun ((i, x) : Nat × Operand) => (opndG (slots (tab nt f)) x).map fun d => (i, d)).bind fun ps => (fill (fun i => some (i * e.size, e.size)) (zflat e len) ps).bind fun cs => (rowsOf e.size cs len).bind fun es => if len * e.size ≤ 2 ^ 24 then some (⟨.one (.own nid 0 len), [(nid, .own e.size es)]⟩ : Eff) else none) = _
 subst hz
 rw [ht, ov_fun]
 have h1 : (parts.toList.mapM fun ((i, x) : Nat × Operand) => (ov nt f x).map fun d => (i, d)) = some ps := hps
 simp only [Option.bind_some, he, hte, h1, hf, hr]
 rw [if_pos (Nat.le_of_ble_eq_true hl)]
theorem q_ext {x : Operand} {i : Nat} {ds : List D} {v : D} (hx : ov nt f x = some (.tup ds)) (hi : ds[i]? = some v) : PS E n nt f L (.extract x i) v := fun h nid hb => by
 show ((opndG (slots (tab nt f)) x).bind fun d => match d with
  | .tup ds => (ds[i]?).bind fun v => some (⟨v, []⟩ : Eff)
  | _ => none) = _
 rw [ov_eq, hx]
 show (ds[i]?).bind _ = _
 rw [hi]; rfl
theorem map_get {α β : Type} {r : α → β} {l : List α} {i : Nat} {x : α} (h : l[i]? = some x) : (l.map r)[i]? = some (r x) := by rw [List.getElem?_map, h]; rfl
theorem get_lt {α : Type} {l : List α} {i : Nat} {x : α} (h : l[i]? = some x) : i < l.length := (List.getElem?_eq_some_iff.1 h).1
theorem map_set {α β : Type} {r : α → β} {l : List α} {i : Nat} {x : α} : (l.map r).set i (r x) = (l.set i x).map r := (List.map_set).symm
theorem q_ixS {α : Type} {r : α → List T} {ty : TypeId} {x ix : Operand} {fr fb nn : Bool} {sz : Nat} {l : List α} {kb : IntKind} {i : Int} {y : α} (hx : ov nt f x = some (.one (.p fr (.s nn sz (l.map r))))) (hi : ov nt f ix = some (.one (.p fb (.v (.int kb i))))) (h0 : 0 ≤ i) (hy : l[i.toNat]? = some y) (hz : elemAt E.ti ty = some sz) : PS E n nt f L (.indexAddr ty x ix) (.one (.iptr fr sz (l.map r) i.toNat 0)) := fun h nid hb => by
 rw [s_index, ov_eq, hx, ov_eq, hi]
 show kIx E.ti ty h _ (asNat (.one (.p fb (.v (.int kb i))))) = _
 rw [asNat_nonneg _ _ _ h0]
 refine Eq.trans (b := kIx2 E.ti ty h i.toNat (.one (.p fr (.s nn sz (l.map r))))) rfl ?_
 rw [kI_s, hz]
 show (if i.toNat < (l.map r).length ∧ sz = sz then _ else _) = _
 rw [if_pos ⟨by rw [List.length_map]; exact get_lt hy, rfl⟩]
theorem q_ixO {α : Type} {r : α → List C} {ty : TypeId} {x ix : Operand} {fb : Bool} {k sz : Nat} {l : List α} {kb : IntKind} {i : Int} {y : α} (p : Nat) (hx : ov nt f x = some (.one (.own k 0 l.length))) (hi : ov nt f ix = some (.one (.p fb (.v (.int kb i))))) (h0 : 0 ≤ i) (hy : l[i.toNat]? = some y) (hp : L[p]? = some [(k, sz, l.map r)]) (hz : elemAt E.ti ty = some sz) : PS E n nt f L (.indexAddr ty x ix) (.one (.ptr k i.toNat 0)) := fun h nid hb => by
 rw [s_index, ov_eq, hx, ov_eq, hi]
 show kIx E.ti ty h _ (asNat (.one (.p fb (.v (.int kb i))))) = _
 rw [asNat_nonneg _ _ _ h0]
 refine Eq.trans (b := kIx2 E.ti ty h i.toNat (.one (.own k 0 l.length))) rfl ?_
 rw [kI_o, hz, hb.get hp]
 show (if i.toNat < l.length ∧ sz = sz then _ else _) = _
 rw [if_pos ⟨get_lt hy, rfl⟩, Nat.zero_add]
theorem q_lenG {c : Call} {a : Operand} {ty e : TypeId} {t : TI} {d : D} {m : Nat} (hc : c.callee = .builtin .len) (ha : c.args.toList = [a]) (hty : c.argTypes[0]? = some ty) (ht : E.ti ty = some t) (hd : t.desc = .slice e) (hx : ov nt f a = some d) (hl : lenD d = some m) : PS E n nt f L (.call c) (iD .i64 m) := fun h nid hb => by
 have h1 : isCall (.call c) = none := by unfold isCall; simp only [hc]
 rw [s_call, h1]
 unfold sem opOf
 simp only [hc, hty, ht, ha, ov_fun, Option.bind_eq_bind, Option.bind_some, List.mapM_cons, List.mapM_nil, hx, Option.pure_def, hd, hl]
 rfl
theorem lenD_s {α : Type} {r : α → List T} {fr nn : Bool} {sz : Nat} {l : List α} : lenD (.one (.p fr (.s nn sz (l.map r)))) = some l.length := by
 show some (l.map r).length = _
 rw [List.length_map]
def Elems (L : BL) (x : D) (xs : List (List C)) : Prop := ∀ h, HB h L → elems h x = some xs
theorem el_ownM {α : Type} {r : α → List C} {k sz : Nat} {l : List α} (p : Nat) (hp : L[p]? = some [(k, sz, l.map r)]) : Elems L (.one (.own k 0 l.length)) (l.map r) := fun h hb => by
 show ((getBlk h k).bind fun x => cut x.2 0 l.length) = _
 rw [hb.get hp]
 show cut (l.map r) 0 l.length = _
 unfold cut
 rw [if_pos (by simp), List.drop_zero, List.take_of_length_le (by simp)]
theorem q_mkcap {α : Type} {r : α → List C} {ty : Nat} {x y : Operand} {t te : TI} {ety z : Nat} {fa fb : Bool} {ka kb : IntKind} {i j : Int} {a : α} (ht : E.ti ty = some t) (he : elemOf t = some ety) (hte : E.ti ety = some te) (hx : ov nt f x = some (.one (.p fa (.v (.int ka i))))) (hy : ov nt f y = some (.one (.p fb (.v (.int kb j))))) (h0 : 0 ≤ i) (hij : i ≤ j) (hj : j.toNat ≤ bound) (hz : zrow te = r a) (hs : te.size = z) : PN E n nt f L (.makeSlice ty x y) (fun k => .one (.own k 0 (List.replicate i.toNat a).length)) z ((List.replicate i.toNat a).map r) := fun h nid hb => by
 show ((E.ti ty).bind fun t => (elemOf t).bind fun q => (E.ti q).bind fun e => (opndG (slots (tab nt f)) x).bind fun dx => (asNat dx).bind fun n => (opndG (slots (tab nt f)) y).bind fun dy => (asNat dy).bind fun m => if n ≤ m ∧ m ≤ bound then some (⟨.one (.own nid 0 n), [(nid, .own e.size (List.replicate n (zrow e)))]⟩ : Eff) else none) = _
 rw [ht]
 simp only [Option.bind_some, he, hte, ov_eq, hx, hy, asNat_nonneg _ _ _ h0, asNat_nonneg _ _ _ (show 0 ≤ j by omega)]
 rw [if_pos ⟨by omega, hj⟩, List.length_replicate, List.map_replicate, hz, hs]
theorem mapM_all {α β γ : Type} {r : α → List β} {q : α → List γ} {g : β → Option (Bool × γ)} (hq : ∀ x, (r x).mapM g = some ((q x).map fun t => (true, t))) : ∀ l : List α, ((l.map r).mapM fun e => e.mapM g) = some ((l.map q).map fun e => e.map fun t => (true, t))
 | [] => rfl
 | x :: l => by
  rw [List.map_cons, List.mapM_cons, hq x, mapM_all hq l]; rfl
theorem vc_own {α : Type} {r : α → List T} {k sz : Nat} {l : List α} (p : Nat) (hp : L[p]? = some [(k, sz, l.map (rowC r))]) (hr : ∀ x h m, (rowC r x).mapM (view h (m + 1)) = some ((r x).map fun t => (true, t))) : ∀ h, HB h L → ∀ m, view h (m + 2) (.own k 0 l.length) = some (true, .s true sz (l.map r)) := fun h hb m => by
 have hc : cut (l.map (rowC r)) 0 l.length = some (l.map (rowC r)) := by
  unfold cut; rw [if_pos (by simp), List.drop_zero, List.take_of_length_le (by simp)]
 have e1 : view h (m + 2) (.own k 0 l.length) = (getBlk h k).bind fun x => (cut x.2 0 l.length).bind fun es => (es.mapM fun e : List C => e.mapM (view h (m + 1))).bind fun q => some (q.all (fun e => e.all (·.1)), T.s true x.1 (q.map (fun e => e.map (·.2)))) := rfl
 rw [e1, hb.get hp]
 simp only [Option.bind_some, hc]
 rw [mapM_all (q := r) fun x => hr x h m]
 simp only [Option.bind_some, List.map_map]
 congr 2
 ·rw [List.all_eq_true]; intro x hx; simp only [List.mem_map] at hx; obtain ⟨y, _, rfl⟩ := hx; rw [List.all_eq_true]; intro z hz; simp only [Function.comp, List.mem_map] at hz; obtain ⟨w, _, rfl⟩ := hz; rfl
 ·congr 1
  refine List.map_congr_left fun x hx => ?_
  simp [Function.comp_def]
def RunsX (E : Env) (n : Nat) (k : FuncId) (vs : List TD) (rs : List TD) : Prop := ∃ fr : Bool, RunsP E n k vs (cond fr .fresh .any, rs)
def f0 (vs : List TD) : Nat → D := fun i => (vs.map (unview false)).getD i undefD
theorem RunsP.x {k : FuncId} {vs rs : List TD} (h : RunsP E n k vs (.fresh, rs)) : RunsX E n k vs rs := ⟨true, h⟩
end
section
variable (P : Program) (t : TypeId) (x y : Operand) (k : IntKind) {a b : Int}
end
def mo {α : Type} (w : Nat) (l : List α) : Sl α :=
 match l with
 | [] => ⟨false, 0, []⟩
 | _ :: _ => ⟨true, w, l⟩
def moC {α : Type} (l : List α) (k : Nat) : C :=
 match l with
 | [] => .p true (.s false 0 [])
 | _ :: _ => .own k 0 l.length
theorem mo_l {α : Type} (w : Nat) (l : List α) : (mo w l).l = l := by cases l <;> rfl
def divO (k : IntKind) (a b : Int) : Option Int := if b ≠ 0 then some (k.wrap (a.tdiv b)) else none
def modO (a b : Int) : Option Int := if b ≠ 0 then some (a.tmod b) else none
theorem divO_p {P : Program} {t : TypeId} {x y : Operand} {k : IntKind} {a b z : Int} (h : divO k a b = some z) : pureOf P (do eqGuard .quo t x y (.int k a) (.int k b); binOp .quo t (.int k a) (.int k b)) = some (.int k z) := by
 unfold divO at h
 split at h
 ·rename_i hc; rw [← Option.some.inj h]; exact p_quo _ _ _ _ _ _ _ hc
 ·simp at h
theorem modO_p {P : Program} {t : TypeId} {x y : Operand} {k : IntKind} {a b z : Int} (h : modO a b = some z) : pureOf P (do eqGuard .rem t x y (.int k a) (.int k b); binOp .rem t (.int k a) (.int k b)) = some (.int k z) := by
 unfold modO at h
 split at h
 ·rename_i hc; rw [← Option.some.inj h]; exact p_rem _ _ _ _ _ _ _ hc
 ·simp at h
def lenOk (i : Int) : Option Unit := if 0 ≤ i ∧ i.toNat ≤ bound then some () else none
def capOk (i j : Int) : Option Unit := if i = j then some () else if i ≤ j ∧ j.toNat ≤ bound then some () else none
theorem capOk_some {i j : Int} {u : Unit} (h : capOk i j = some u) : i = j ∨ (i ≤ j ∧ j.toNat ≤ bound) := by
 unfold capOk at h
 split at h
 ·rename_i hi; exact .inl hi
 ·split at h
  ·rename_i hj; exact .inr hj
  ·simp at h
theorem lenOk_some {i : Int} {u : Unit} (h : lenOk i = some u) : 0 ≤ i ∧ i.toNat ≤ bound := by
 unfold lenOk at h
 split at h
 ·assumption
 ·simp at h
end Ev
end Go.Proofs.Ytcnfdbkolbgbcaa
end
section
namespace Go.Proofs.Ytcnfdbkolbgbcaa
namespace Ev
open Go Go.RowKit
set_option linter.unusedVariables false
set_option linter.unusedSimpArgs false
def shrI (x : Int) (k : IntKind) (y : Int) : Int := x.fdiv (2 ^ (min y.toNat k.bits))
def shlI (x : Int) (k : IntKind) (y : Int) : Int := k.wrap (x * 2 ^ (min y.toNat k.bits))
def shr1 (k : IntKind) (x y : Int) : Option Int := if 0 ≤ y then some (shrI x k y) else none
def shl1 (k : IntKind) (x y : Int) : Option Int := if 0 ≤ y then some (shlI x k y) else none
theorem p_shr {P : Program} {t : TypeId} {x y : Operand} {k k' : IntKind} {a b z : Int} (h : shr1 k a b = some z) : pureOf P (do eqGuard .shr t x y (.int k a) (.int k' b); binOp .shr t (.int k a) (.int k' b)) = some (.int k z) := by
 unfold shr1 at h
 split at h
 ·rename_i hc
  rw [← Option.some.inj h]
  have : (do eqGuard .shr t x y (.int k a) (.int k' b); binOp .shr t (.int k a) (.int k' b)) = (pure (.int k (shrI a k b)) : Sem Value) := by
   show Op.shift .shr k a k' b = _
   unfold Op.shift
   rw [if_neg (by omega)]
   rfl
  rw [this]; rfl
 ·simp at h
theorem p_shl {P : Program} {t : TypeId} {x y : Operand} {k k' : IntKind} {a b z : Int} (h : shl1 k a b = some z) : pureOf P (do eqGuard .shl t x y (.int k a) (.int k' b); binOp .shl t (.int k a) (.int k' b)) = some (.int k z) := by
 unfold shl1 at h
 split at h
 ·rename_i hc
  rw [← Option.some.inj h]
  have : (do eqGuard .shl t x y (.int k a) (.int k' b); binOp .shl t (.int k a) (.int k' b)) = (pure (.int k (shlI a k b)) : Sem Value) := by
   show Op.shift .shl k a k' b = _
   unfold Op.shift
   rw [if_neg (by omega)]
   rfl
  rw [this]; rfl
 ·simp at h
def andI (k : IntKind) (x y : Int) : Int := k.wrap (BitVec.ofInt k.bits x &&& BitVec.ofInt k.bits y).toNat
def orI (k : IntKind) (x y : Int) : Int := k.wrap (BitVec.ofInt k.bits x ||| BitVec.ofInt k.bits y).toNat
def xorI (k : IntKind) (x y : Int) : Int := k.wrap (BitVec.ofInt k.bits x ^^^ BitVec.ofInt k.bits y).toNat
def andNotI (k : IntKind) (x y : Int) : Int := k.wrap (BitVec.ofInt k.bits x &&& ~~~ BitVec.ofInt k.bits y).toNat
section
variable (P : Program) (t : TypeId) (x y : Operand) (k : IntKind) (a b : Int)
theorem p_and : pureOf P (do eqGuard .and t x y (.int k a) (.int k b); binOp .and t (.int k a) (.int k b)) = some (.int k (andI k a b)) := by cases k <;> rfl
theorem p_or : pureOf P (do eqGuard .or t x y (.int k a) (.int k b); binOp .or t (.int k a) (.int k b)) = some (.int k (orI k a b)) := by cases k <;> rfl
theorem p_xor : pureOf P (do eqGuard .xor t x y (.int k a) (.int k b); binOp .xor t (.int k a) (.int k b)) = some (.int k (xorI k a b)) := by cases k <;> rfl
theorem p_andNot : pureOf P (do eqGuard .andNot t x y (.int k a) (.int k b); binOp .andNot t (.int k a) (.int k b)) = some (.int k (andNotI k a b)) := by cases k <;> rfl
end
section
variable {E : Env} {y : Nat → YldP} {n nt : Nat} {f : Nat → D} {L : BL}
def cutS {α : Type} (w : Nat) (s : Sl α) (lo hi : Int) : Option (Sl α) := if 0 ≤ lo ∧ lo ≤ hi ∧ hi ≤ (s.l.length : Int) ∧ (s.sz = w ∨ lo = 0) then some ⟨s.nn, s.sz, (s.l.drop lo.toNat).take (hi.toNat - lo.toNat)⟩ else none
theorem cutS_some {α : Type} {w : Nat} {s s' : Sl α} {lo hi : Int} (h : cutS w s lo hi = some s') : (0 ≤ lo ∧ lo ≤ hi ∧ hi ≤ (s.l.length : Int) ∧ (s.sz = w ∨ lo = 0)) ∧ s' = ⟨s.nn, s.sz, (s.l.drop lo.toNat).take (hi.toNat - lo.toNat)⟩ := by
 unfold cutS at h
 split at h
 ·rename_i hc; exact ⟨hc, (Option.some.inj h).symm⟩
 ·simp at h
theorem no_none {ρ : Operand → Option D} (d : Nat) : natOr ρ none d = some ((d : Int)).toNat := by simp [natOr]
theorem no_some {y : Operand} {fr : Bool} {k : IntKind} {i : Int} (hx : ov nt f y = some (.one (.p fr (.v (.int k i))))) (h0 : 0 ≤ i) (d : Nat) : natOr (ov nt f) (some y) d = some i.toNat := by
 show (ov nt f y).bind asNat = _
 rw [hx]
 exact asNat_nonneg fr k _ h0
theorem q_sliceM {α : Type} {r : α → List T} {ty e : TypeId} {t te : TI} {x : Operand} {lo hi mx : Option Operand} {fr nn : Bool} {sz m : Nat} {l : List α} {s' : Sl α} {i j : Int} (hc : cutS te.size ⟨nn, sz, l⟩ i j = some s') (hx : ov nt f x = some (.one (.p fr (.s nn sz (l.map r))))) (ht : E.ti ty = some t) (he : elemOf t = some e) (hte : E.ti e = some te) (hlo : natOr (ov nt f) lo 0 = some i.toNat) (hhi : natOr (ov nt f) hi l.length = some j.toNat) (hmx : natOr (ov nt f) mx l.length = some m) (hm : (mx.isSome && hi.isNone) = false) (hm1 : j.toNat ≤ m) (hm2 : m ≤ l.length) : PS E n nt f L (.slice ty x lo hi mx) (.one (.p fr (Sl.t r s'))) := fun h nid hb => by
 obtain ⟨⟨c1, c2, c3, c4⟩, rfl⟩ := cutS_some hc
 simp only at c1 c2 c3 c4
 show (if (mx.isSome && hi.isNone) = true then none else (E.ti ty).bind fun t => (elemOf t).bind fun q => (E.ti q).bind fun te => (opndG (slots (tab nt f)) x).bind fun d => (lenD d).bind fun n => (natOr (opndG (slots (tab nt f))) hi n).bind fun h' => (natOr (opndG (slots (tab nt f))) lo 0).bind fun l' => (natOr (opndG (slots (tab nt f))) mx n).bind fun m' => if l' ≤ h' ∧ h' ≤ m' ∧ m' ≤ n then _ else _) = _
 rw [if_neg (by rw [hm]; simp), ht, ov_fun]
 simp only [Option.bind_some, he, hte, hx, lenD_s, hhi, hlo, hmx]
 rw [if_pos (by omega)]
 show (if sz = te.size ∨ i.toNat = 0 then _ else _) = _
 rw [if_pos (by rcases c4 with h | h; exact .inl h; exact .inr (by omega))]
 unfold Sl.t
 rw [List.map_take, List.map_drop]
theorem q_ixA {ty e : TypeId} {t te : TI} {m z : Nat} {x ix : Operand} {fb : Bool} {kb : IntKind} {k i j a : Nat} (ht : E.ti ty = some t) (hd : t.desc = .array m e) (hte : E.ti e = some te) (hz : te.size = z) (hx : ov nt f x = some (.one (.ptr k i j))) (hi : ov nt f ix = some (.one (.p fb (.v (.int kb (a : Int)))))) (ha : Nat.blt a m = true) : PS E n nt f L (.indexAddr ty x ix) (.one (.ptr k i (j + a * z))) := fun h nid hb => by
 rw [s_index, ov_eq, hx, ov_eq, hi]
 refine Eq.trans (b := kIx2 E.ti ty h a (.one (.ptr k i j))) rfl ?_
 show ((E.ti ty).bind fun t => match t.desc with
  | .array n e => (E.ti e).bind fun te => if a < n then some (⟨.one (.ptr k i (j + a * te.size)), []⟩ : Eff) else none
  | _ => none) = _
 rw [ht]
 simp only [Option.bind_some, hd, hte]
 rw [if_pos (blt_lt ha), hz]
variable {ops : Array Oper} {r : List Oper} {K : St → Prop}
def minI (a b : Int) : Int := if b < a then b else a
def maxI (a b : Int) : Int := if b > a then b else a
theorem q_minmax {c : Call} {x y : Operand} {ty : TypeId} {t : TI} {fa fb : Bool} {ka kb : IntKind} {a b : Int} (hx : ov nt f x = some (.one (.p fa (.v (.int ka a))))) (hy : ov nt f y = some (.one (.p fb (.v (.int kb b))))) (ht : E.ti ty = some t) (hargs : c.args.toList = [x, y]) (hty : c.argTypes[0]? = some ty) : (c.callee = .builtin .min → PS E n nt f L (.call c) (iD ka (minI a b))) ∧ (c.callee = .builtin .max → PS E n nt f L (.call c) (iD ka (maxI a b))) := by
 constructor <;> intro hc h nid hb
 all_goals
  have h1 : isCall (.call c) = none := by unfold isCall; simp only [hc]
  rw [s_call, h1]
  unfold sem opOf
  simp only [hc, hty, ht, hargs, ov_fun, Option.bind_eq_bind, Option.bind_some, List.mapM_cons, List.mapM_nil, hx, hy, Option.pure_def, plain, plainC]
  rfl
end
def resM {α : Type} (w : Nat) (r : α → List T) (l : List α) : Kind × List TD :=
 match l with
 | [] => (.fresh, [.one (.s false 0 [])])
 | y :: t => (.own, [.one (.s true w ((y :: t).map r))])
section
variable {α : Type} {rw_ : α → List T} {w k : Nat} {l : List α}
theorem lenD_M : lenD (.one (moC l k)) = some l.length := by cases l <;> rfl
end
section
variable {E : Env} {y : Nat → YldP} {n nt : Nat} {f : Nat → D} {L : BL} {ops : Array Oper} {o : Oper} {rr : List Oper} {K : St → Prop} {d : Nat}
end
theorem pof_bind {α β : Type} (P : Program) (s : Sem α) (k : α → Sem β) : pureOf P (s >>= k) = (pureOf P s).bind fun a => pureOf P (k a) := by
 induction s with
 | pure a => rfl
 | program q ih => exact ih P
 | _ => rfl
section
variable {P : Program}
theorem pof_und {t : TypeId} {d : TypeDesc} (h : P.underlying t = some d) : pureOf P (underlying t) = some d := by
 have : pureOf P (underlying t) = match P.underlying t with | some d => some d | none => none := by
  show pureOf P (underlying t) = _
  cases hx : P.underlying t with
  | none => rw [hx] at h; simp at h
  | some d' =>
   unfold underlying
   simp [pof_bind, program, pureOf, hx]
   rfl
 rw [this, h]
theorem pof_struct (d : Nat) (t : TypeId) (xs ys : Array Value) {fs : Array Field} (ht : P.underlying t = some (.struct fs)) (hp : P.stoodInHeld t = false) :
  pureOf P (Op.equalIn (d + 1) t (.agg xs) (.agg ys)) = pureOf P (Op.eqFields d xs ys fs.toList) := by
 have e1 : pureOf P program = some P := rfl
 simp only [Op.equalIn, pof_bind, pof_und ht, Option.bind_some, e1, hp, Bool.false_eq_true, if_false]
 rw [← Array.forIn_toList]
 generalize fs.toList = fs
 clear ht
 induction fs with
 | nil => rfl
 | cons f fs ih =>
  simp only [List.forIn_cons, Op.eqFields, pof_bind]
  by_cases hf : f.name ≠ "_"
  ·simp only [if_pos hf, pof_bind]
   cases pureOf P (part f.type xs f.offset) with
   | none => rfl
   | some a =>
    cases pureOf P (part f.type ys f.offset) with
    | none => rfl
    | some b =>
     simp only [Option.bind_some]
     cases pureOf P (Op.equalIn d f.type a b) with
     | none => rfl
     | some q =>
      cases q
      ·rfl
      ·exact ih
  ·simp only [if_neg hf, pof_bind]
   exact ih
theorem pof_field {d : Nat} {xs ys : Array Value} {f : Field} {fs : List Field} {k k' : IntKind} {a b : Int} (hf : (f.name == "_") = false) (h1 : pureOf P (part f.type xs f.offset) = some (.int k a)) (h2 : pureOf P (part f.type ys f.offset) = some (.int k b)) (h3 : P.underlying f.type = some (.int k')) :
  pureOf P (Op.eqFields (d + 1) xs ys (f :: fs)) = if (a == b) = true then pureOf P (Op.eqFields (d + 1) xs ys fs) else some false := by
 have hf' : f.name ≠ "_" := by simpa using hf
 have h4 : pureOf P (Op.equalIn (d + 1) f.type (.int k a) (.int k b)) = some (a == b) := by
  simp only [Op.equalIn, pof_bind, pof_und h3, Option.bind_some, if_true]
  rfl
 simp only [Op.eqFields, if_pos hf', pof_bind, h1, h2, h4, Option.bind_some]
 cases a == b <;> rfl
theorem pof_nofield {d : Nat} {xs ys : Array Value} : pureOf P (Op.eqFields d xs ys []) = some true := rfl
theorem pof_eqlA {t : TypeId} {x y : Operand} {xs ys : Array Value} {b : Bool} (hg : P.eqGuardType P.depth t = false) (h : pureOf P (Op.equalIn 10000 t (.agg xs) (.agg ys)) = some b) : pureOf P (do eqGuard .eql t x y (.agg xs) (.agg ys); binOp .eql t (.agg xs) (.agg ys)) = some (.bool b) := by
 have e1 : pureOf P program = some P := rfl
 have h1 : pureOf P (eqGuard .eql t x y (.agg xs) (.agg ys)) = some () := by
  simp only [eqGuard, Bool.not_true, Bool.false_eq_true, if_false, pof_bind, e1, Option.bind_some, hg, Bool.not_false, if_true]
  rfl
 rw [pof_bind, h1]
 show pureOf P (binOp .eql t (.agg xs) (.agg ys)) = _
 have h2 : binOp .eql t (.agg xs) (.agg ys) = (do pure (.bool (← Op.equal t (.agg xs) (.agg ys)))) := rfl
 rw [h2, pof_bind]
 unfold Op.equal Op.maxDepth
 rw [h]; rfl
theorem pof_neqA {t : TypeId} {x y : Operand} {xs ys : Array Value} {b : Bool} (hg : P.eqGuardType P.depth t = false) (h : pureOf P (Op.equalIn 10000 t (.agg xs) (.agg ys)) = some b) : pureOf P (do eqGuard .neq t x y (.agg xs) (.agg ys); binOp .neq t (.agg xs) (.agg ys)) = some (.bool (!b)) := by
 have e1 : pureOf P program = some P := rfl
 have h1 : pureOf P (eqGuard .neq t x y (.agg xs) (.agg ys)) = some () := by
  simp only [eqGuard, Bool.not_true, Bool.false_eq_true, if_false, pof_bind, e1, Option.bind_some, hg, Bool.not_false, if_true]
  rfl
 rw [pof_bind, h1]
 show pureOf P (binOp .neq t (.agg xs) (.agg ys)) = _
 have h2 : binOp .neq t (.agg xs) (.agg ys) = (do pure (.bool (!(← Op.equal t (.agg xs) (.agg ys))))) := rfl
 rw [h2, pof_bind]
 unfold Op.equal Op.maxDepth
 rw [h]; rfl
theorem and_of {a b : Bool} {q : Option Bool} (h : q = some b) : (if a = true then q else some false) = some (a && b) := by cases a <;> simp [h]
end
end Ev
end Go.Proofs.Ytcnfdbkolbgbcaa
end
section
namespace Go.Proofs.Ytcnfdbkolbgbcaa
namespace Ev
open Go Go.RowKit
set_option linter.unusedVariables false
set_option linter.unusedSimpArgs false
def inK (k : IntKind) (x : Int) : Prop := (Lit.int k x).wf = true
def SlW {α : Type} (w : Nat) (Q : α → Prop) (s : Sl α) : Prop := s.sz = w ∧ (s.nn = false → s.l = []) ∧ s.l.length ≤ maxLen ∧ ∀ x ∈ s.l, Q x
section
variable {P : Program} {t : TypeId} {ts : List T}
theorem typ_int {k : IntKind} (hu : P.underlying t = some (.int k)) (h : Typ P t ts) : ∃ x : Int, ts = [iT k x] ∧ inK k x := by
 cases h with
 | int _ k' n h hw => rw [hu] at h; cases h; exact ⟨n, rfl, hw⟩
 | bool _ b h => rw [hu] at h; simp at h
 | str _ s h => rw [hu] at h; simp at h
 | slice _ e nn l h => rw [hu] at h; simp at h
 | struct _ fs tss h => rw [hu] at h; simp at h
 | array _ n e tss h => rw [hu] at h; simp at h
theorem rows_open {α β : Type} {r : α → β} {Q : α → Prop} : ∀ {l : List β}, (∀ es ∈ l, ∃ x, es = r x ∧ Q x) → ∃ xs : List α, l = xs.map r ∧ ∀ x ∈ xs, Q x
 | [], _ => ⟨[], rfl, fun x hx => by simp at hx⟩
 | e :: l, h => by
  obtain ⟨x, rfl, hx⟩ := h e List.mem_cons_self
  obtain ⟨xs, rfl, hxs⟩ := rows_open fun e he => h e (List.mem_cons_of_mem _ he)
  exact ⟨x :: xs, rfl, fun y hy => by rcases List.mem_cons.1 hy with rfl | hy; exact hx; exact hxs y hy⟩
theorem typ_slice {α : Type} {r : α → List T} {Q : α → Prop} {e : TypeId} {w : Nat} (hu : P.underlying t = some (.slice e)) (hw : P.cellsOf e = w) (he : ∀ ts, Typ P e ts → ∃ x, ts = r x ∧ Q x) (h : Typ P t ts) : ∃ s : Sl α, ts = [Sl.t r s] ∧ SlW w Q s := by
 cases h with
 | slice _ e' nn l h hn hl h1 h2 =>
  rw [hu] at h; cases h
  obtain ⟨xs, rfl, hq⟩ := rows_open (r := r) (Q := Q) fun es hes => he es (h2 es hes)
  exact ⟨⟨nn, w, xs⟩, by rw [hw]; rfl, rfl, fun hh => by simpa using hn hh, by simpa using hl, hq⟩
 | int _ k' n h hw => rw [hu] at h; simp at h
 | bool _ b h => rw [hu] at h; simp at h
 | str _ s h => rw [hu] at h; simp at h
 | struct _ fs tss h => rw [hu] at h; simp at h
 | array _ n e tss h => rw [hu] at h; simp at h
theorem typ_struct {fs : Array Field} (hu : P.underlying t = some (.struct fs)) (h : Typ P t ts) : ∃ tss : List (List T), ts = tss.flatten ∧ tss.length = fs.toList.length ∧ ∀ (i : Nat) f ts', fs.toList[i]? = some f → tss[i]? = some ts' → Typ P f.type ts' := by
 cases h with
 | struct _ fs' tss h hl hf => rw [hu] at h; cases h; exact ⟨tss, rfl, by simpa using hl, fun i f ts' h1 h2 => hf i f ts' (by simpa using h1) h2⟩
 | int _ k' n h hw => rw [hu] at h; simp at h
 | bool _ b h => rw [hu] at h; simp at h
 | str _ s h => rw [hu] at h; simp at h
 | slice _ e nn l h => rw [hu] at h; simp at h
 | array _ n e tss h => rw [hu] at h; simp at h
theorem typd_one {ts : List TypeId} {tds : List TD} {d : TypeDesc} (hu : P.underlying t = some d) (ha : isAggD d = false) (h : TypDs P (t :: ts) tds) : ∃ x r, tds = .one x :: r ∧ Typ P t [x] ∧ TypDs P ts r := by
 cases h with
 | cons t ts td ds h hr =>
  cases h with
  | one x h _ => exact ⟨x, ds, rfl, h, hr⟩
  | agg xs h h2 => obtain ⟨d', h3, h4⟩ := h2; rw [hu] at h3; cases h3; rw [ha] at h4; simp at h4
theorem typd_agg {ts : List TypeId} {tds : List TD} {d : TypeDesc} (hu : P.underlying t = some d) (ha : isAggD d = true) (h : TypDs P (t :: ts) tds) : ∃ x r, tds = .agg x :: r ∧ Typ P t x ∧ TypDs P ts r := by
 cases h with
 | cons t ts td ds h hr =>
  cases h with
  | agg x h _ => exact ⟨x, ds, rfl, h, hr⟩
  | one xs h h2 => obtain ⟨d', h3, h4⟩ := h2; rw [hu] at h3; cases h3; rw [ha] at h4; simp at h4
theorem typd_nil {tds : List TD} (h : TypDs P [] tds) : tds = [] := by cases h; rfl
end
theorem law_of {E : Env} {n : Nat} {k : FuncId} {tds : List TD} (h : RunsP E n k tds (.fresh, [.one (bT true)])) : ∃ m n kind, (callers E m n).1 k tds = some (kind, [.one (.v (.bool true))]) := by
 obtain ⟨M, hM⟩ := h
 exact ⟨M, n, .fresh, hM M (Nat.le_refl _)⟩
theorem loop_up {A R : Type} {b : A → Option (A ⊕ R)} (n : Nat) (I : Nat → A → Prop) (Q : R → Prop) (hs : ∀ j a, j < n → I j a → (∃ a', b a = some (.inl a') ∧ I (j + 1) a') ∨ ∃ r, b a = some (.inr r) ∧ Q r) (he : ∀ a, I n a → ∃ r, b a = some (.inr r) ∧ Q r) (j : Nat) (hj : j ≤ n) (a : A) (ha : I j a) : ∃ r, loopO b a = some r ∧ Q r := by
 obtain ⟨k, hk⟩ : ∃ k, n = j + k := ⟨n - j, by omega⟩
 induction k generalizing j a with
 | zero =>
  have : j = n := by omega
  subst this
  obtain ⟨r, h1, h2⟩ := he a ha
  exact ⟨r, loopO_done h1, h2⟩
 | succ k ih =>
  rcases hs j a (by omega) ha with ⟨a', h1, h2⟩ | ⟨r, h1, h2⟩
  ·obtain ⟨r, h3, h4⟩ := ih (j + 1) (by omega) a' h2 (by omega)
   exact ⟨r, (loopO_step h1).trans h3, h4⟩
  ·exact ⟨r, loopO_done h1, h2⟩
theorem at_get {α : Type} {w : Nat} {s : Sl α} (hs : s.l = [] ∨ s.sz = w) {j : Nat} (hj : j < s.l.length) : atS w s (j : Int) = some s.l[j] := by
 have hw : s.sz = w := hs.resolve_left (by intro h; rw [h] at hj; simp at hj)
 unfold atS
 rw [if_pos ⟨by omega, hw⟩]
 simp
theorem atL_get {α : Type} {l : List α} {j : Nat} (hj : j < l.length) : atL l (j : Int) = some l[j] := by
 unfold atL
 rw [if_pos (by omega)]
 simp
theorem app_ok {α : Type} {l m : List α} (h : l.length + m.length ≤ bound) : app l m = some (l ++ m) := by unfold app; rw [if_pos h]
theorem w_succ {j n : Nat} (h : j < n) (hn : n ≤ 9223372036854775807) : IntKind.i64.wrap ((j : Int) + 1) = ((j + 1 : Nat) : Int) := by rw [wrap64 (by omega) (by omega)]; rfl
def neL {α : Type} (l : List α) : Option Unit :=
 match l with
 | [] => none
 | _ :: _ => some ()
end Ev
end Go.Proofs.Ytcnfdbkolbgbcaa
end
section
namespace Go.Proofs.Ytcnfdbkolbgbcaa
namespace Ev
open Go Go.RowKit
set_option linter.unusedVariables false
set_option linter.unusedSimpArgs false
section
variable {E : Env} {y : Nat → YldP} {n nt : Nat} {f : Nat → D} {L : BL}
def capsOf (nt : Nat) (f : Nat → D) (l : List Operand) : Option (List C) := l.mapM fun x => do match ← ov nt f x with | .one c => some c | _ => none
theorem q_mkfun {fn : Fn} {first cap : Array Operand} {fs cs : List C} (h1 : capsOf nt f first.toList = some fs) (h2 : capsOf nt f cap.toList = some cs) : PS E n nt f L (.makeFunc fn first cap) (.one (.clo fn fs cs)) := fun h nid hb => by
 show ((first.toList.mapM fun x => (opndG (slots (tab nt f)) x).bind fun d => match d with | .one c => some c | _ => none).bind fun a => (cap.toList.mapM fun x => (opndG (slots (tab nt f)) x).bind fun d => match d with | .one c => some c | _ => none).bind fun b => some (⟨.one (.clo fn a b), []⟩ : Eff)) = _
 rw [ov_fun]
 have h1' : (first.toList.mapM fun x => (ov nt f x).bind fun d => match d with | .one c => some c | _ => none) = some fs := h1
 have h2' : (cap.toList.mapM fun x => (ov nt f x).bind fun d => match d with | .one c => some c | _ => none) = some cs := h2
 rw [h1', h2']; rfl
def complI (k : IntKind) (a : Int) : Int := xorI k (if k.signed then -1 else k.max) a
theorem q_compl {ty : TypeId} {x : Operand} {fr : Bool} {k : IntKind} {a : Int} (hx : ov nt f x = some (.one (.p fr (.v (.int k a))))) : PS E n nt f L (.unOp .xor ty x) (iD k (complI k a)) := fun h nid hb => by
 show ((opndG (slots (tab nt f)) x).bind fun d => (plain d).bind fun v => (pureOf E.P (Op.unary .xor v)).bind mkO) = _
 rw [ov_eq, hx]
 cases k <;> rfl
def fA (args : List D) : Nat → D := fun i => args.getD i undefD
theorem tab_fA {args : List D} {k : Nat} (hl : args.length ≤ k) : args ++ List.replicate (k - args.length) undefD = tab k (fA args) := by
 rw [tab_of (args ++ List.replicate (k - args.length) undefD)]
 have hlen : (args ++ List.replicate (k - args.length) undefD).length = k := by simp; omega
 rw [hlen]
 refine List.ext_getElem? fun i => ?_
 rw [tab_get, tab_get]
 split
 ·rename_i hi
  congr 1
  unfold fA
  rw [List.getD_eq_getElem?_getD, List.getD_eq_getElem?_getD, List.getElem?_append]
  split
  ·rfl
  ·rename_i hge
   rw [List.getElem?_replicate, if_pos (by omega), List.getElem?_eq_none (by omega)]; rfl
 ·rfl
def callQ (E : Env) (y : Nat → YldP) (n nt : Nat) (ops : Array Oper) (r : List Oper) (K : St → Prop) (f : Nat → D) (d : Nat) (rv : List ResultVar) : Ex → St → Prop := fun e s => (e = .normal ∨ e = .ret) ∧ ∃ ds, rv.mapM (resultD E s) = some ds ∧ OpsW E y n ops r K { t := tab nt (up f d (tupD ds)), h := s.h }
variable {ops : Array Oper} {o : Oper} {r : List Oper} {K : St → Prop} {d : Nat} {Q : Ex → St → Prop}
theorem want_wanted {b : Bool} (h : wantF ops o nt f = some b) : wantedD ops (slots (tab nt f)) o = some b := by
 obtain ⟨g, g1, g2⟩ := wantF_eq h
 unfold gOf at g1
 unfold wantedD
 cases ho : o.guard with
 | none => rw [ho] at g1; simp only [Option.some.injEq] at g1; subst g1; exact g2
 | some p =>
  obtain ⟨j, w⟩ := p
  rw [ho] at g1
  simp only [Option.map_eq_some_iff] at g1
  obtain ⟨d, h1, h2⟩ := g1
  subst h2
  rw [Option.bind_eq_some_iff] at h1
  obtain ⟨o', h3, h4⟩ := h1
  have h3' : ops[j]? = some o' := by simpa using h3
  simp only [h3', h4, Option.bind_eq_bind, Option.bind_some]
  exact g2
theorem step_call {cp : CallP} {c : Call} {nid : Nat} {H : Heap} (hw : wantF ops o nt f = some true) (hc : isCall o.op = some c) : step E cp ops nid o (slots (tab nt f)) H = pcall cp nid c (slots (tab nt f)) H := by
 unfold step
 rw [want_wanted hw]
 simp only [Option.bind_eq_bind, Option.bind_some, if_true, hc]
def setF (f : Nat → D) : List Tmp → List D → Nat → D
 | p :: ps, d :: ds => setF (up f p d) ps ds
 | _, _ => f
end
section
variable {X Up KT : Type} {nt : Nat}
variable {ex : Ex} {S : X → KT → (Nat → D) → Nat → D} {SL : X → KT → BL} {J : Up → Ex → St → Prop} {G : Up → Ex → St → Prop}
end
end Ev
end Go.Proofs.Ytcnfdbkolbgbcaa
end
