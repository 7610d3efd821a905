/- Operations by their arguments' values: nothing is left under a binder. No program is named here. -/
import Derived.Test.YtjomjfjbpcafhaaDoorEv21
namespace Go.Proofs.YtjomjfjbpcafhaaDoor
namespace Ev
open Go Go.RowKit
set_option linter.unusedVariables false
set_option linter.unusedSimpArgs false

def fieldAt (ti : TypeId → Option TI) (ty m : Nat) : Option (Nat × Nat × Bool) := (ti ty).bind fun t => (fieldOf t m).bind fun fd => (ti fd.type).bind fun ft => some (fd.offset, ft.size, isAggD ft.desc)
def sizeAt (ti : TypeId → Option TI) (ty : Nat) : Option (Nat × Bool) := (ti ty).bind fun t => some (t.size, isAggD t.desc)
def elemAt (ti : TypeId → Option TI) (ty : Nat) : Option Nat := (ti ty).bind fun t => (elemOf t).bind fun e => (ti e).bind fun te => some te.size
def kMove : Option D → Option Eff
  | some d => some ⟨d, []⟩
  | none => none
def kField : Option (Nat × Nat × Bool) → Option D → Option Eff
  | some (off, sz, _), some (.one (.ptr k i j)) => if sz = 0 then none else some ⟨.one (.ptr k i (j + off)), []⟩
  | some (off, sz, _), some (.one (.iptr fr s l i j)) => if sz = 0 then none else some ⟨.one (.iptr fr s l i (j + off)), []⟩
  | _, _ => none
def kOut : Option D → Option Eff
  | some d => some ⟨d, []⟩
  | none => none
def kOf (agg : Bool) : Option (List C) → Option D
  | some cs => ofCells agg cs
  | none => none
def kCut (j n : Nat) : Option (List C) → Option (List C)
  | some cs => cut cs j n
  | none => none
def kRow (i : Nat) : Option (Nat × List (List C)) → Option (List C)
  | some (_, es) => es[i]?
  | none => none
def kIn (fr : Bool) : Option (List T) → Option (List C)
  | some e => some (e.map (pC fr))
  | none => none
def kLoad (H : Heap) : Option (Nat × Bool) → Option D → Option Eff
  | some (sz, agg), some (.one (.ptr k i j)) => kOut (kOf agg (kCut j (if agg then sz else 1) (kRow i (getBlk H k))))
  | some (sz, agg), some (.one (.iptr fr _ l i j)) => kOut (kOf agg (kCut j (if agg then sz else 1) (kIn fr l[i]?)))
  | _, _ => none
def kPick : Option D → Option D → Option D → Option Eff
  | some (.one (.p _ (.v (.bool true)))), a, _ => kMove a
  | some (.one (.p _ (.v (.bool false)))), _, b => kMove b
  | _, _, _ => none
def kBin2 (P : Program) (ti : TypeId → Option TI) (op : BinOp) (ty : TypeId) (x y : Operand) (a b : D) : Option Eff :=
  match a, y with
  | .one (.p _ (.s nn _ _)), .const (.slice none 0 0) => do
    let _ ← elemOf (← ti ty)
    match op with
    | .eql => some { v := mk (.bool (!nn)) }
    | .neq => some { v := mk (.bool nn) }
    | _ => none
  | .one (.own ..), .const (.slice none 0 0) => do
    let _ ← elemOf (← ti ty)
    match op with
    | .eql => some { v := mk (.bool false) }
    | .neq => some { v := mk (.bool true) }
    | _ => none
  | _, _ => do
    let va ← plain a
    let vb ← plain b
    mkO (← pureOf P (do eqGuard op ty x y va vb; binOp op ty va vb))
def kBin (P : Program) (ti : TypeId → Option TI) (op : BinOp) (ty : TypeId) (x y : Operand) : Option D → Option D → Option Eff
  | some a, some b => kBin2 P ti op ty x y a b
  | _, _ => none
def kGuard (E : Env) (cp : CallP) (nid : Nat) (op : Op) (t : Tmp → Option D) (H : Heap) (w : Bool) : Option D → Option Eff
  | some (.one (.p _ (.v (.bool b)))) => if b == w then stepG E cp none nid op t H else some ⟨undefD, []⟩
  | some (.tup []) => some ⟨undefD, []⟩
  | _ => none
def kIdx (i : Nat) (fr : Bool) (sz : Nat) (l : List (List T)) : Option Nat → Option Eff
  | some te => if i < l.length ∧ sz = te then some ⟨.one (.iptr fr sz l i 0), []⟩ else none
  | none => none
def kIdo (i k off n : Nat) : Option Nat → Option (Nat × List (List C)) → Option Eff
  | some te, some (bz, _) => if i < n ∧ bz = te then some ⟨.one (.ptr k (off + i) 0), []⟩ else none
  | _, _ => none
def kIx2 (ti : TypeId → Option TI) (ty : TypeId) (H : Heap) (i : Nat) (d : D) : Option Eff := do
  let t ← ti ty
  match d with
  | .one (.p fr (.s _ sz l)) => do
    let te ← ti (← elemOf t)
    if i < l.length ∧ sz = te.size then some { v := .one (.iptr fr sz l i 0) } else none
  | .one (.own k off n) => do
    let te ← ti (← elemOf t)
    let (bz, _) ← getBlk H k
    if i < n ∧ bz = te.size then some { v := .one (.ptr k (off + i) 0) } else none
  | .one (.ptr k i' j) =>
    match t.desc with
    | .array n e => do
      let te ← ti e
      if i < n then some { v := .one (.ptr k i' (j + i * te.size)) } else none
    | _ => none
  | .one (.iptr fr sz l i' j) =>
    match t.desc with
    | .array n e => do
      let te ← ti e
      if i < n then some { v := .one (.iptr fr sz l i' (j + i * te.size)) } else none
    | _ => none
  | _ => none
def kIx (ti : TypeId → Option TI) (ty : TypeId) (H : Heap) : Option D → Option Nat → Option Eff
  | some d, some i => kIx2 ti ty H i d
  | _, _ => none
def kPatch (j : Nat) (cs : List C) : Option (List C) → Option (List C)
  | some e => patch e j cs
  | none => none
def kPut2 (k i bz : Nat) (es : List (List C)) : Option (List C) → Option Eff
  | some e' => some ⟨undefD, [(k, .own bz (es.set i e'))]⟩
  | none => none
def kPut (k i j sz : Nat) : Option (List C) → Option (Nat × List (List C)) → Option Eff
  | some cs, some (bz, es) => if cs.length = sz then kPut2 k i bz es (kPatch j cs es[i]?) else none
  | _, _ => none
def kStore (H : Heap) : Option (Nat × Bool) → Option D → Option D → Option Eff
  | some (sz, _), some (.one (.ptr k i j)), some x => kPut k i j sz (dcells x) (getBlk H k)
  | _, _, _ => none
def kNat : Option D → Option Nat
  | some d => asNat d
  | none => none
section
variable {E : Env} {cp : CallP} {nid : Nat} {t : Tmp → Option D} {H : Heap}
theorem s_guard {op : Op} {i : Nat} {w : Bool} : stepG E cp (some (i, w)) nid op t H = kGuard E cp nid op t H w (t i) := by
  have key : ∀ x : Option D, ((x.bind fun d => match d with
      | .one (.p _ (.v (.bool b))) => some (b == w)
      | .tup [] => some false
      | _ => none).bind fun b => if b then stepG E cp none nid op t H else some (⟨undefD, []⟩ : Eff)) = kGuard E cp nid op t H w x := by
    intro x
    cases x with
    | none => rfl
    | some d =>
      cases d with
      | one c =>
        cases c with
        | p fr x =>
          cases x with
          | v x => cases x <;> rfl
          | s _ _ _ => rfl
        | _ => rfl
      | agg _ => rfl
      | tup ds => cases ds <;> rfl
  rw [← key]
  rfl
theorem kG_tt {op : Op} {fr : Bool} : kGuard E cp nid op t H true (some (.one (.p fr (.v (.bool true))))) = stepG E cp none nid op t H := rfl
theorem kG_ff {op : Op} {fr : Bool} : kGuard E cp nid op t H false (some (.one (.p fr (.v (.bool false))))) = stepG E cp none nid op t H := rfl
theorem kG_tf {op : Op} {fr : Bool} : kGuard E cp nid op t H true (some (.one (.p fr (.v (.bool false))))) = some ⟨undefD, []⟩ := rfl
theorem kG_ft {op : Op} {fr : Bool} : kGuard E cp nid op t H false (some (.one (.p fr (.v (.bool true))))) = some ⟨undefD, []⟩ := rfl
theorem kG_un {op : Op} {w : Bool} : kGuard E cp nid op t H w (some (.tup [])) = some ⟨undefD, []⟩ := rfl
theorem s_move {x : Operand} : stepG E cp none nid (.move x) t H = kMove (opndG t x) := by
  show (opndG t x).bind (fun d => some (⟨d, []⟩ : Eff)) = _
  cases opndG t x <;> rfl
theorem s_assign {x : Operand} : stepG E cp none nid (.assign x) t H = kMove (opndG t x) := by
  show (opndG t x).bind (fun d => some (⟨d, []⟩ : Eff)) = _
  cases opndG t x <;> rfl
theorem s_field {ty : TypeId} {x : Operand} {m : Nat} : stepG E cp none nid (.fieldAddr ty x m) t H = kField (fieldAt E.ti ty m) (opndG t x) := by
  show ((E.ti ty).bind fun t' => (fieldOf t' m).bind fun fd => (E.ti fd.type).bind fun ft => if ft.size = 0 then none else (opndG t x).bind fun d => match d with
    | .one (.ptr k i j) => some (⟨.one (.ptr k i (j + fd.offset)), []⟩ : Eff)
    | .one (.iptr fr sz l i j) => some ⟨.one (.iptr fr sz l i (j + fd.offset)), []⟩
    | _ => none) = _
  unfold fieldAt
  cases E.ti ty with
  | none => rfl
  | some t' =>
    simp only [Option.bind_some]
    cases fieldOf t' m with
    | none => rfl
    | some fd =>
      simp only [Option.bind_some]
      cases E.ti fd.type with
      | none => rfl
      | some ft =>
        simp only [Option.bind_some]
        cases hx : opndG t x with
        | none => split <;> rfl
        | some d =>
          cases d with
          | one c => cases c <;> simp only [kField, Option.bind_some] <;> split <;> rfl
          | _ => simp only [kField, Option.bind_some]; split <;> rfl
theorem s_load {ty : TypeId} {x : Operand} : stepG E cp none nid (.load ty x) t H = kLoad H (sizeAt E.ti ty) (opndG t x) := by
  show ((E.ti ty).bind fun t' => (opndG t x).bind fun d => (load H (isAggD t'.desc) (if isAggD t'.desc then t'.size else 1) d).bind fun v => some (⟨v, []⟩ : Eff)) = _
  unfold sizeAt
  cases E.ti ty with
  | none => rfl
  | some t' =>
    simp only [Option.bind_some]
    cases opndG t x with
    | none => rfl
    | some d =>
      simp only [Option.bind_some]
      cases d with
      | one c =>
        cases c with
        | ptr k i j =>
          simp only [kLoad, load]
          cases getBlk H k with
          | none => rfl
          | some p =>
            obtain ⟨bz, es⟩ := p
            simp only [Option.bind_eq_bind, Option.bind_some, kRow]
            cases es[i]? with
            | none => rfl
            | some e =>
              simp only [Option.bind_some, kCut]
              generalize cut e j _ = z
              cases z with
              | none => rfl
              | some cs => simp only [Option.bind_some, kOf]; cases ofCells _ cs <;> rfl
        | iptr fr sz l i j =>
          simp only [kLoad, load]
          cases l[i]? with
          | none => rfl
          | some e =>
            simp only [Option.bind_eq_bind, Option.bind_some, kIn, kCut]
            generalize cut _ j _ = z
            cases z with
            | none => rfl
            | some cs => simp only [Option.bind_some, kOf]; cases ofCells _ cs <;> rfl
        | _ => rfl
      | _ => rfl
theorem s_bin {op : BinOp} {ty sh : TypeId} {x y : Operand} : stepG E cp none nid (.binOp op ty x y sh) t H = kBin E.P E.ti op ty x y (opndG t x) (opndG t y) := by
  show ((opndG t x).bind fun a => (opndG t y).bind fun b => kBin2 E.P E.ti op ty x y a b) = _
  cases opndG t x with
  | none => rfl
  | some a =>
    cases opndG t y with
    | none => rfl
    | some b => rfl
theorem kB_int {P : Program} {ti : TypeId → Option TI} {op : BinOp} {ty : TypeId} {x y : Operand} {fr fr' : Bool} {k k' : IntKind} {a b : Int} :
    kBin2 P ti op ty x y (.one (.p fr (.v (.int k a)))) (.one (.p fr' (.v (.int k' b)))) = (pureOf P (do eqGuard op ty x y (.int k a) (.int k' b); binOp op ty (.int k a) (.int k' b))).bind mkO := rfl
theorem s_pick {c a b : Operand} : stepG E cp none nid (.pick c a b) t H = kPick (opndG t c) (opndG t a) (opndG t b) := by
  show ((opndG t c).bind fun d => (asBool d).bind fun z => if z then (opndG t a).bind fun v => some (⟨v, []⟩ : Eff) else (opndG t b).bind fun v => some ⟨v, []⟩) = _
  cases opndG t c with
  | none => rfl
  | some d =>
    simp only [Option.bind_some]
    cases d with
    | one e =>
      cases e with
      | p fr z =>
        cases z with
        | v z =>
          cases z with
          | bool z =>
            cases z
            · simp only [asBool, Option.bind_some, kPick, Bool.false_eq_true, if_false]; cases opndG t b <;> rfl
            · simp only [asBool, Option.bind_some, kPick, if_true]; cases opndG t a <;> rfl
          | _ => rfl
        | _ => rfl
      | _ => rfl
    | _ => rfl
theorem s_index {ty : TypeId} {x ix : Operand} : stepG E cp none nid (.indexAddr ty x ix) t H = kIx E.ti ty H (opndG t x) (kNat (opndG t ix)) := by
  show ((E.ti ty).bind fun t' => (opndG t ix).bind fun di => (asNat di).bind fun i => (opndG t x).bind fun d => _) = _
  cases h1 : opndG t x with
  | none =>
    simp only [Option.bind_none, kIx]
    cases E.ti ty with
    | none => rfl
    | some t' =>
      cases opndG t ix with
      | none => rfl
      | some di => simp only [Option.bind_some]; cases asNat di <;> rfl
  | some d =>
    cases h2 : opndG t ix with
    | none => cases E.ti ty <;> rfl
    | some di =>
      simp only [kNat, Option.bind_some]
      cases h3 : asNat di with
      | none => cases E.ti ty <;> rfl
      | some i =>
        simp only [Option.bind_some, kIx, kIx2]
        rfl
theorem kI_s {ti : TypeId → Option TI} {ty : TypeId} {i : Nat} {fr nn : Bool} {sz : Nat} {l : List (List T)} : kIx2 ti ty H i (.one (.p fr (.s nn sz l))) = kIdx i fr sz l (elemAt ti ty) := by
  show ((ti ty).bind fun t' => (elemOf t').bind fun e => (ti e).bind fun te => if i < l.length ∧ sz = te.size then some (⟨.one (.iptr fr sz l i 0), []⟩ : Eff) else none) = _
  unfold elemAt
  cases ti ty with
  | none => rfl
  | some t' =>
    simp only [Option.bind_some]
    cases elemOf t' with
    | none => rfl
    | some e =>
      simp only [Option.bind_some]
      cases ti e <;> rfl
theorem kI_o {ti : TypeId → Option TI} {ty : TypeId} {i k off n : Nat} : kIx2 ti ty H i (.one (.own k off n)) = kIdo i k off n (elemAt ti ty) (getBlk H k) := by
  show ((ti ty).bind fun t' => (elemOf t').bind fun e => (ti e).bind fun te => (getBlk H k).bind fun p => match p with | (bz, _) => if i < n ∧ bz = te.size then some (⟨.one (.ptr k (off + i) 0), []⟩ : Eff) else none) = _
  unfold elemAt
  cases ti ty with
  | none => rfl
  | some t' =>
    simp only [Option.bind_some]
    cases elemOf t' with
    | none => rfl
    | some e =>
      simp only [Option.bind_some]
      cases ti e with
      | none => rfl
      | some te => simp only [Option.bind_some]; cases getBlk H k <;> rfl
theorem s_store {ty : TypeId} {a x : Operand} : stepG E cp none nid (.store ty a x) t H = kStore H (sizeAt E.ti ty) (opndG t a) (opndG t x) := by
  show ((E.ti ty).bind fun t' => (opndG t a).bind fun d => (opndG t x).bind fun v => store H t'.size d v) = _
  unfold sizeAt
  cases E.ti ty with
  | none => rfl
  | some t' =>
    simp only [Option.bind_some]
    cases opndG t a with
    | none => rfl
    | some d =>
      simp only [Option.bind_some]
      cases opndG t x with
      | none => cases d with | one c => cases c <;> rfl | _ => rfl
      | some v =>
        simp only [Option.bind_some]
        cases d with
        | one c =>
          cases c with
          | ptr k i j =>
            simp only [kStore, store]
            cases dcells v with
            | none => rfl
            | some cs =>
              simp only [Option.bind_eq_bind, Option.bind_some]
              cases getBlk H k with
              | none => simp only [kPut]; split <;> rfl
              | some p =>
                obtain ⟨bz, es⟩ := p
                simp only [Option.bind_some, kPut]
                split
                · cases es[i]? with
                  | none => rfl
                  | some e => simp only [Option.bind_some, kPatch]; cases patch e j cs <;> rfl
                · rfl
          | _ => rfl
        | _ => rfl
theorem s_call {c : Call} : stepG E cp none nid (.call c) t H = match isCall (.call c) with
    | some c => pcall cp nid c t H
    | none => sem E nid (opOf (.call c)) (opndG t) H := rfl
theorem s_alloc {e : TypeId} : stepG E cp none nid (.alloc e) t H = sem E nid (opOf (.alloc e)) (opndG t) H := rfl
theorem s_box {e : TypeId} {x : Operand} : stepG E cp none nid (.box e x) t H = sem E nid (opOf (.box e x)) (opndG t) H := rfl
theorem s_build {e : TypeId} {ps : Array (Nat × Operand)} : stepG E cp none nid (.build e ps) t H = sem E nid (opOf (.build e ps)) (opndG t) H := rfl
theorem s_buildSlice {e : TypeId} {n : Nat} {ps : Array (Nat × Operand)} : stepG E cp none nid (.buildSlice e n ps) t H = sem E nid (opOf (.buildSlice e n ps)) (opndG t) H := rfl
theorem s_makeSlice {e : TypeId} {x y : Operand} : stepG E cp none nid (.makeSlice e x y) t H = sem E nid (opOf (.makeSlice e x y)) (opndG t) H := rfl
theorem s_slice {e : TypeId} {x : Operand} {a b c : Option Operand} : stepG E cp none nid (.slice e x a b c) t H = sem E nid (opOf (.slice e x a b c)) (opndG t) H := rfl
theorem s_extract {x : Operand} {i : Nat} : stepG E cp none nid (.extract x i) t H = sem E nid (opOf (.extract x i)) (opndG t) H := rfl
end
end Ev
end Go.Proofs.YtjomjfjbpcafhaaDoor
