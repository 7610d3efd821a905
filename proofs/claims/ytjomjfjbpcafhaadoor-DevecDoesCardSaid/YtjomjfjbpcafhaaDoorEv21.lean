/- One operation after another. No program is named here. -/
import Derived.Test.YtjomjfjbpcafhaaDoorEv20
namespace Go.Proofs.YtjomjfjbpcafhaaDoor
namespace Ev
open Go Go.RowKit
set_option linter.unusedVariables false
set_option linter.unusedSimpArgs false

theorem tab_getE (n : Nat) (f : Nat → D) (i : Nat) (h : i < (tab n f).length) : (tab n f)[i] = f i := by simp [tab]
theorem asNat_succ (fr : Bool) (k : IntKind) (n : Nat) : asNat (.one (.p fr (.v (.int k ((n : Int) + 1))))) = some (n + 1) := rfl
/-- The slot that guards an operation. -/
def gOf (ops : Array Oper) (o : Oper) : Option (Option (Tmp × Bool)) :=
  match o.guard with
  | none => some none
  | some (j, w) => ((ops.toList[j]?).bind fun g => g.dst).map fun d => some (d, w)
def wantG (t : Tmp → Option D) : Option (Tmp × Bool) → Option Bool
  | none => some true
  | some (d, w) => do
    match ← t d with
    | .one (.p _ (.v (.bool b))) => some (b == w)
    | .tup [] => some false
    | _ => none
def opOf (op : Op) : Oper := { dst := none, op, type := 0, pos := "", after := #[], guard := none }
def stepG (E : Env) (cp : CallP) (g : Option (Tmp × Bool)) (nid : Nat) (op : Op) (t : Tmp → Option D) (H : Heap) : Option Eff := do
  if ← wantG t g then
    match isCall op with
    | some c => pcall cp nid c t H
    | none => sem E nid (opOf op) (opndG t) H
  else some { v := undefD }
theorem stepG_eq {E : Env} {cp : CallP} {ops : Array Oper} {g : Option (Tmp × Bool)} {nid : Nat} {o : Oper} {t : Tmp → Option D} {H : Heap} (hg : gOf ops o = some g) : step E cp ops nid o t H = stepG E cp g nid o.op t H := by
  have hw : wantedD ops t o = wantG t g := by
    unfold gOf at hg
    unfold wantedD
    cases ho : o.guard with
    | none => rw [ho] at hg; simp only [Option.some.injEq] at hg; subst hg; rfl
    | some p =>
      obtain ⟨j, w⟩ := p
      rw [ho] at hg
      simp only [Option.map_eq_some_iff] at hg
      obtain ⟨d, h1, h2⟩ := hg
      subst h2
      rw [Option.bind_eq_some_iff] at h1
      obtain ⟨o', h3, h4⟩ := h1
      have h3' : ops[j]? = some o' := by simpa using h3
      simp only [h3', h4, Option.bind_eq_bind, Option.bind_some, wantG]
      rfl
  unfold step stepG
  rw [hw]
  rfl
theorem apply_nil (H : Heap) : Ev.apply H [] = H := rfl
theorem apply_one (H : Heap) (k : Nat) (b : Blk) : Ev.apply H [(k, b)] = putBlk H k b := rfl
theorem apply_two (H : Heap) (k j : Nat) (b c : Blk) : Ev.apply H [(k, b), (j, c)] = putBlk (putBlk H k b) j c := rfl
section
variable {E : Env} {y : Nat → YldP} {n : Nat} {cp : CallP} {cf : CallG} {ops : Array Oper} {Q : St → Prop} {QT : List D → Prop} {o : Oper} {r : List Oper} {f : Nat → D} {H H' : Heap} {v : D} {u : List (Nat × Blk)} {d : Nat}
theorem ops_nil {s : St} (h : Q s) : holdsQ Q (evOps E cp cf ops [] s) := h
variable {g : Option (Tmp × Bool)}
theorem ops_put (hg : gOf ops o = some g) (hd : o.dst = some d) (hn : d < n) (hs : stepG E cp g H.length o.op (slots (tab n f)) H = some ⟨v, u⟩) (hu : Ev.apply H u = H') (h : holdsQ Q (evOps E cp cf ops r { t := tab n (upd f d v), h := H' })) : holdsQ Q (evOps E cp cf ops (o :: r) { t := tab n f, h := H }) := by
  subst hu
  rw [← stepG_eq hg] at hs
  have : evOps E cp cf ops (o :: r) { t := tab n f, h := H } = evOps E cp cf ops r { t := tab n (upd f d v), h := Ev.apply H u } := by
    simp only [evOps, evOp, hs, put, hd, setT, tab_len, hn, if_true, tab_set, Option.bind_eq_bind, Option.bind_some]
  rw [this]; exact h
theorem ops_none (hg : gOf ops o = some g) (hd : o.dst = none) (hs : stepG E cp g H.length o.op (slots (tab n f)) H = some ⟨v, u⟩) (hu : Ev.apply H u = H') (h : holdsQ Q (evOps E cp cf ops r { t := tab n f, h := H' })) : holdsQ Q (evOps E cp cf ops (o :: r) { t := tab n f, h := H }) := by
  subst hu
  rw [← stepG_eq hg] at hs
  have : evOps E cp cf ops (o :: r) { t := tab n f, h := H } = evOps E cp cf ops r { t := tab n f, h := Ev.apply H u } := by
    simp only [evOps, evOp, hs, put, hd, setT, Option.bind_eq_bind, Option.bind_some]
  rw [this]; exact h
variable {b i : Nat}
theorem r_nil {t : List D} (h : QT t) : holdsQ QT (evR E cp ops H b i [] t) := h
theorem r_put (hg : gOf ops o = some g) (hd : o.dst = some d) (hn : d < n) (hs : stepG E cp g (b + i) o.op (slots (tab n f)) H = some ⟨v, []⟩) (h : holdsQ QT (evR E cp ops H b (i + 1) r (tab n (upd f d v)))) : holdsQ QT (evR E cp ops H b i (o :: r) (tab n f))   := by
  rw [← stepG_eq hg] at hs
  have : evR E cp ops H b i (o :: r) (tab n f) = evR E cp ops H b (i + 1) r (tab n (upd f d v)) := by
    simp only [evR, hs, hd, setT, tab_len, hn, if_true, tab_set, Option.bind_eq_bind, Option.bind_some, List.isEmpty_nil]
  rw [this]; exact h
theorem r_none (hg : gOf ops o = some g) (hd : o.dst = none) (hs : stepG E cp g (b + i) o.op (slots (tab n f)) H = some ⟨v, []⟩) (h : holdsQ QT (evR E cp ops H b (i + 1) r (tab n f))) : holdsQ QT (evR E cp ops H b i (o :: r) (tab n f))   := by
  rw [← stepG_eq hg] at hs
  have : evR E cp ops H b i (o :: r) (tab n f) = evR E cp ops H b (i + 1) r (tab n f) := by
    simp only [evR, hs, hd, setT, if_true, Option.bind_eq_bind, Option.bind_some, List.isEmpty_nil]
  rw [this]; exact h
variable {U M : Nat → List Nat}
theorem w_nil {s : St} (h : Q s) : holdsQ Q (evW E cp ops b U M i [] s) := h
theorem w_put (hg : gOf ops o = some g) (hd : o.dst = some d) (hn : d < n) (hs : stepG E cp g (b + i) o.op (slots (tab n f)) (mask H (M i)) = some ⟨v, u⟩) (hi : u.map (·.1) = U i) (hl : (U i).all (· < H.length) = true) (hu : Ev.apply H u = H') (h : holdsQ Q (evW E cp ops b U M (i + 1) r { t := tab n (upd f d v), h := H' })) :
    holdsQ Q (evW E cp ops b U M i (o :: r) { t := tab n f, h := H }) := by
  subst hu
  rw [← stepG_eq hg] at hs
  have : evW E cp ops b U M i (o :: r) { t := tab n f, h := H } = evW E cp ops b U M (i + 1) r { t := tab n (upd f d v), h := Ev.apply H u } := by
    simp only [evW, hs, put, hd, setT, tab_len, hn, if_true, tab_set, Option.bind_eq_bind, Option.bind_some, ids, hi, hl, and_self]
  rw [this]; exact h
theorem w_none (hg : gOf ops o = some g) (hd : o.dst = none) (hs : stepG E cp g (b + i) o.op (slots (tab n f)) (mask H (M i)) = some ⟨v, u⟩) (hi : u.map (·.1) = U i) (hl : (U i).all (· < H.length) = true) (hu : Ev.apply H u = H') (h : holdsQ Q (evW E cp ops b U M (i + 1) r { t := tab n f, h := H' })) :
    holdsQ Q (evW E cp ops b U M i (o :: r) { t := tab n f, h := H }) := by
  subst hu
  rw [← stepG_eq hg] at hs
  have : evW E cp ops b U M i (o :: r) { t := tab n f, h := H } = evW E cp ops b U M (i + 1) r { t := tab n f, h := Ev.apply H u } := by
    simp only [evW, hs, put, hd, setT, if_true, Option.bind_eq_bind, Option.bind_some, ids, hi, hl, and_self]
  rw [this]; exact h
end
section
variable {E : Env} {y : Nat → YldP} {n : Nat}
theorem wpc_ops {id : Nat} {l : List Oper} {Q : Ex → St → Prop} {s : St} (h : holdsQ (Q .normal) (evOps E (cpR E n) cfN l.toArray l s)) : WpC E y n (.region id l.toArray false) Q s := wpc_region (by simpa using h)
theorem wpc_stillL {id : Nat} {l : List Oper} {Q : Ex → St → Prop} {t : List D} {h : Heap} (k : Nat) (hk : l.length = k) (hq : drawOkQ l.toArray = true) (hh : ∀ h', h'.length = h.length + k → (∀ k, getBlk h' k = getBlk h k) → holdsQ (fun t => Q .normal { t, h := h' }) (evR E (cpR E n) l.toArray h' h.length 0 l t)) : WpC E y n (.region id l.toArray true) Q { t, h } :=
  wpc_still hq fun h' h1 h2 => by simpa using hh h' (by simpa [hk] using h1) h2
theorem wpc_turnL {id : Nat} {l : List Oper} {Q : Ex → St → Prop} {t : List D} {h : Heap} (k : Nat) (hk : l.length = k) (O : List (List Nat)) (N : List (Bool × List Nat)) (R : List (List Nat)) (hq : drawOkQ l.toArray = true) (hn : newOk l.toArray N = true) (hR : openTo l.toArray = R) (hO : DJ O R O) (hb : ∀ l ∈ O, ∀ k ∈ l, k < h.length)
    (hh : ∀ h', h'.length = h.length + k → (∀ k, getBlk h' k = getBlk h k) → holdsQ (Q .normal) (evW E (cpR E n) l.toArray h.length (turnsOf h.length O N) (fun i => (R.getD i []).flatMap (turnsOf h.length O N)) 0 l { t, h := h' })) : WpC E y n (.region id l.toArray true) Q { t, h } :=
  wpc_turn O N R hq hn hR hO hb fun h' h1 h2 => by simpa using hh h' (by simpa [hk] using h1) h2
end
end Ev
end Go.Proofs.YtjomjfjbpcafhaaDoor
