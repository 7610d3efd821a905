/- An evaluator of the code of functions over data: memory is a list of blocks, each owned by the call; what came in is data that no call turns. No program is named here. -/
import Derived.Calls
import Derived.Orders
import Derived.KernelRfl
namespace Go.Proofs.YtjomjfjbpcafhaaDoor
namespace Ev
open Go
set_option linter.unusedVariables false

/-- A datum of one cell: a plain value, or a slice (is it not nil; how many cells an element has; the elements). -/
inductive T where
  | v (x : Value)
  | s (nn : Bool) (sz : Nat) (l : List (List T))
  deriving Inhabited
/-- What stands in one cell while a call runs: a datum; a slice of a block that the call owns; a pointer to a cell of such a block, or to a cell of a datum; a function with what it has captured. -/
inductive C where
  | p (fr : Bool) (t : T)
  | own (k off n : Nat)
  | ptr (k i j : Nat)
  | iptr (fr : Bool) (sz : Nat) (l : List (List T)) (i j : Nat)
  | clo (fn : Fn) (first cap : List C)
  | yld (k : Nat)
  deriving Inhabited
/-- A datum in a cell: a plain value is nobody's. -/
def pC (fr : Bool) : T → C
  | .v x => .p true (.v x)
  | .s nn sz l => .p fr (.s nn sz l)
inductive D where
  | one (c : C)
  | agg (cs : List C)
  | tup (ds : List D)
  deriving Inhabited
inductive Blk where
  | own (sz : Nat) (es : List (List C))
  | dead
  | no
  deriving Inhabited
abbrev Heap := List Blk
/-- A datum of any type: what a call is handed, and hands back. -/
inductive TD where
  | one (t : T)
  | agg (ts : List T)
  deriving Inhabited

/-- What is handed back: of what was handed in, maybe; new; or one slice of plain values in a new block of its own. -/
inductive Kind where
  | any | fresh | own
  deriving DecidableEq, Inhabited
def undefD : D := .tup []
structure TI where
  desc : TypeDesc
  zero : List Value
  size : Nat
  bytes : Nat
structure FI where
  nt : Nat
  results : List ResultVar
  body : Code
inductive Ex where
  | normal | exit (id : Nat) | ret
  deriving DecidableEq, Inhabited
/-- A round of a loop over a function: which loop, what is yielded, the memory: how the round is left, and the memory. -/
abbrev YldP := Nat → List D → Heap → Option (Ex × Heap)
structure Env where
  P : Program
  ti : TypeId → Option TI
  fn : FuncId → Option FI
  ax : FuncId → Option (List TD → Option (Kind × List TD))
def noY : YldP := fun _ _ _ => none

/-- The value of a computation that touches nothing but the program. -/
def pureOf {α : Type} (P : Program) : Sem α → Option α
  | .pure a => some a
  | .program k => pureOf P (k P)
  | _ => none

def zeroC : Value → C
  | .slice none 0 0 => .p true (.s false 0 [])
  | x => .p true (.v x)
def isAggD : TypeDesc → Bool
  | .struct _ => true
  | .array _ _ => true
  | _ => false
def dcells : D → Option (List C)
  | .one c => some [c]
  | .agg cs => some cs
  | .tup _ => none
def getBlk (H : Heap) (k : Nat) : Option (Nat × List (List C)) :=
  match H[k]? with
  | some (.own sz es) => some (sz, es)
  | _ => none
def putBlk (H : Heap) (k : Nat) (b : Blk) : Heap :=
  if k < H.length then H.set k b else H ++ List.replicate (k - H.length) .no ++ [b]
/-- so many cells of a list from one on. -/
def cut {α : Type} (l : List α) (i n : Nat) : Option (List α) :=
  if i + n ≤ l.length then some ((l.drop i).take n) else none
def patch {α : Type} (l : List α) (i : Nat) (xs : List α) : Option (List α) :=
  if i + xs.length ≤ l.length then some (l.take i ++ xs ++ l.drop (i + xs.length)) else none
def ofCells (agg : Bool) (cs : List C) : Option D :=
  if agg then some (.agg cs) else match cs with
    | [c] => some (.one c)
    | _ => none

/-- What an operation does: the value that it yields, and the blocks that it turns. -/
structure Eff where
  v : D
  upd : List (Nat × Blk) := []
  deriving Inhabited

def load (H : Heap) (agg : Bool) (sz : Nat) : D → Option D
  | .one (.ptr k i j) => do
    let (_, es) ← getBlk H k
    let e ← es[i]?
    ofCells agg (← cut e j sz)
  | .one (.iptr fr _ l i j) => do
    let e ← l[i]?
    ofCells agg (← cut (e.map (pC fr)) j sz)
  | _ => none
def store (H : Heap) (sz : Nat) (a x : D) : Option Eff :=
  match a with
  | .one (.ptr k i j) => do
    let cs ← dcells x
    if cs.length = sz then
      let (bz, es) ← getBlk H k
      let e ← es[i]?
      let e' ← patch e j cs
      some { v := undefD, upd := [(k, .own bz (es.set i e'))] }
    else none
  | _ => none
def asNat : D → Option Nat
  | .one (.p _ (.v (.int _ n))) => match n with
    | .ofNat n => some n
    | _ => none
  | _ => none
def asInt : D → Option Int
  | .one (.p _ (.v (.int _ n))) => some n
  | _ => none
def asBool : D → Option Bool
  | .one (.p _ (.v (.bool b))) => some b
  | _ => none
/-- The plain value of a datum. -/
def plainC : C → Option Value
  | .p _ (.v x) => some x
  | _ => none
def plainAll : List C → Option (List Value)
  | [] => some []
  | c :: r => do some ((← plainC c) :: (← plainAll r))
def plain : D → Option Value
  | .one c => plainC c
  | .agg cs => do some (.agg (← plainAll cs).toArray)
  | .tup _ => none
def mk (x : Value) : D := .one (.p true (.v x))
def one1 : Value → Bool
  | .agg _ => false
  | .tuple _ => false
  | _ => true
def mkO (x : Value) : Option Eff := if one1 x then some { v := mk x } else none
def fieldOf (t : TI) (f : Nat) : Option Field :=
  match t.desc with
  | .struct fs => fs.toList[f]?
  | _ => none
def elemOf (t : TI) : Option TypeId :=
  match t.desc with
  | .slice e => some e
  | _ => none
def lenD : D → Option Nat
  | .one (.p _ (.s _ _ l)) => some l.length
  | .one (.own _ _ n) => some n
  | _ => none
/-- A part into the cells of a struct or an array. -/
def fill (place : Nat → Option (Nat × Nat)) (cells : List C) : List (Nat × D) → Option (List C)
  | [] => some cells
  | (i, d) :: rest => do
    let (off, size) ← place i
    let cs ← dcells d
    if cs.length = size then fill place (← patch cells off cs) rest else none
def places (ti : TypeId → Option TI) (t : TI) : Option (Nat → Option (Nat × Nat)) :=
  match t.desc with
  | .struct fs => (fs.toList.mapM fun f => (ti f.type).map fun i => (f.offset, i.size)).map fun l => fun i => l[i]?
  | .array _ e => (ti e).map fun te => fun i => some (i * te.size, te.size)
  | _ => none
def zrow (t : TI) : List C := t.zero.map zeroC
def zflat (t : TI) (n : Nat) : List C := (List.range (n * t.size)).map fun m => (zrow t).getD (m % t.size) (.p true (.v .nilFunc))
def rowsOf (sz : Nat) (cs : List C) (n : Nat) : Option (List (List C)) := (List.range n).mapM fun i => cut cs (i * sz) sz
/-- The elements of a slice, as cells. -/
def elems (H : Heap) : D → Option (List (List C))
  | .one (.p fr (.s _ _ l)) => some (l.map (·.map (pC fr)))
  | .one (.own k off n) => do
    let (_, es) ← getBlk H k
    cut es off n
  | _ => none
def isOwn : D → Bool
  | .one (.own ..) => true
  | _ => false
def bound : Nat := 2 ^ 30

/-- append: to nothing, or to the end of a block of one's own, which then is no more. -/
def append (H : Heap) (nid : Nat) (sz : Nat) (a x : D) : Option Eff := do
  let xs ← elems H x
  match a with
  | .one (.p fr (.s nn bz [])) =>
    if nn then none else
    if xs.length = 0 then some { v := .one (.p fr (.s nn bz [])) } else
    if xs.length ≤ bound then
      if xs.all (·.length == sz) then some { v := .one (.own nid 0 xs.length), upd := [(nid, .own sz xs)] } else none
    else none
  | .one (.own k off n) =>
    let (bz, es) ← getBlk H k
    if off = 0 ∧ n = es.length ∧ n + xs.length ≤ bound ∧ bz = sz ∧ xs.all (·.length == sz) = true ∧ sz ≠ 0 then
      some { v := .one (.own nid 0 (n + xs.length)), upd := [(k, .dead), (nid, .own bz (es ++ xs))] }
    else none
  | _ => none

/-- copy: over the first elements of a part of a block of one's own; no more than there is room. -/
def copyD (H : Heap) (sz : Nat) (a x : D) : Option Eff := do
  let xs ← elems H x
  match a with
  | .one (.own k off n) => do
    let (bz, es) ← getBlk H k
    let es' ← patch es off xs
    if bz = sz ∧ xs.length ≤ n ∧ xs.all (·.length == sz) = true ∧ sz ≠ 0 then
      some { v := mk (.int .i64 xs.length), upd := [(k, .own bz es')] }
    else none
  | .one (.p _ (.s _ _ [])) => some { v := mk (.int .i64 0) }
  | _ => none

def natOr (ρ : Operand → Option D) (o : Option Operand) (dflt : Nat) : Option Nat :=
  match o with
  | some y => (ρ y).bind asNat
  | none => some dflt
def sem (E : Env) (nid : Nat) (o : Oper) (ρ : Operand → Option D) (H : Heap) : Option Eff :=
  match o.op with
  | .move x | .assign x => do some { v := ← ρ x }
  | .pick c a b => do
    let t ← asBool (← ρ c)
    if t then some { v := ← ρ a } else some { v := ← ρ b }
  | .alloc e => do
    let t ← E.ti e
    some { v := .one (.ptr nid 0 0), upd := [(nid, .own t.size [zrow t])] }
  | .box e x => do
    let t ← E.ti e
    let cs ← dcells (← ρ x)
    some { v := .one (.ptr nid 0 0), upd := [(nid, .own cs.length [cs])] }
  | .build ty parts => do
    let t ← E.ti ty
    let ps ← parts.toList.mapM fun (i, x) => (ρ x).map fun d => (i, d)
    let pl ← places E.ti t
    let cs ← fill pl (zrow t) ps
    some { v := .agg cs }
  | .buildSlice ty len parts => do
    let t ← E.ti ty
    let e ← E.ti (← elemOf t)
    let ps ← parts.toList.mapM fun (i, x) => (ρ x).map fun d => (i, d)
    let cs ← fill (fun i => some (i * e.size, e.size)) (zflat e len) ps
    let es ← rowsOf e.size cs len
    if len * e.size ≤ 2 ^ 24 then
      some { v := .one (.own nid 0 len), upd := [(nid, .own e.size es)] }
    else none
  | .load ty a => do
    let t ← E.ti ty
    some { v := ← load H (isAggD t.desc) (if isAggD t.desc then t.size else 1) (← ρ a) }
  | .store ty a x => do
    let t ← E.ti ty
    store H t.size (← ρ a) (← ρ x)
  | .binOp op ty x y _ => do
    let a ← ρ x
    let b ← ρ y
    match a, y with
    | .one (.p _ (.s nn _ _)), .const (.slice none 0 0) => do
      let _ ← elemOf (← E.ti ty)
      match op with
      | .eql => some { v := mk (.bool (!nn)) }
      | .neq => some { v := mk (.bool nn) }
      | _ => none
    | .one (.own ..), .const (.slice none 0 0) => do
      let _ ← elemOf (← E.ti ty)
      match op with
      | .eql => some { v := mk (.bool false) }
      | .neq => some { v := mk (.bool true) }
      | _ => none
    | _, _ => do
      let va ← plain a
      let vb ← plain b
      mkO (← pureOf E.P (do eqGuard op ty x y va vb; binOp op ty va vb))
  | .unOp op _ x => do mkO (← pureOf E.P (Op.unary op (← plain (← ρ x))))
  | .convert src dst x => do
    let a ← plain (← ρ x)
    match a with
    | .int .. => do mkO (← pureOf E.P (convert src dst a))
    | _ => none
  | .makeFunc fn first cap => do
    let f ← first.toList.mapM fun x => do match ← ρ x with | .one c => some c | _ => none
    let g ← cap.toList.mapM fun x => do match ← ρ x with | .one c => some c | _ => none
    some { v := .one (.clo fn f g) }
  | .makeSlice ty l c => do
    let t ← E.ti ty
    let e ← E.ti (← elemOf t)
    let n ← asNat (← ρ l)
    let m ← asNat (← ρ c)
    if n = m ∧ n ≤ bound then
      some { v := .one (.own nid 0 n), upd := [(nid, .own e.size (List.replicate n (zrow e)))] }
    else none
  | .slice ty x lo hi mx => do
    if mx.isSome then none else
    let t ← E.ti ty
    let te ← E.ti (← elemOf t)
    let d ← ρ x
    let n ← lenD d
    let h ← natOr ρ hi n
    let l ← natOr ρ lo 0
    if l ≤ h ∧ h ≤ n then
      match d with
      | .one (.p fr (.s nn sz es)) => if sz = te.size ∨ l = 0 then some { v := .one (.p fr (.s nn sz ((es.drop l).take (h - l)))) } else none
      | .one (.own k off _) => do
        let (sz, _) ← getBlk H k
        if l = h then some { v := .one (.p true (.s true sz [])) } else
        if sz = te.size then some { v := .one (.own k (off + l) (h - l)) } else none
      | _ => none
    else none
  | .fieldAddr ty x f => do
    let t ← E.ti ty
    let fd ← fieldOf t f
    let ft ← E.ti fd.type
    if ft.size = 0 then none else
    match ← ρ x with
    | .one (.ptr k i j) => some { v := .one (.ptr k i (j + fd.offset)) }
    | .one (.iptr fr sz l i j) => some { v := .one (.iptr fr sz l i (j + fd.offset)) }
    | _ => none
  | .field ty x f => do
    let t ← E.ti ty
    let fd ← fieldOf t f
    let ft ← E.ti fd.type
    match ← ρ x with
    | .agg cs => do some { v := ← ofCells (isAggD ft.desc) (← cut cs fd.offset (if isAggD ft.desc then ft.size else 1)) }
    | _ => none
  | .indexAddr ty x ix => do
    let t ← E.ti ty
    let i ← asNat (← ρ ix)
    match ← ρ x with
    | .one (.p fr (.s _ sz l)) => do
      let te ← E.ti (← elemOf t)
      if i < l.length ∧ sz = te.size then some { v := .one (.iptr fr sz l i 0) } else none
    | .one (.own k off n) => do
      let te ← E.ti (← elemOf t)
      let (bz, _) ← getBlk H k
      if i < n ∧ bz = te.size then some { v := .one (.ptr k (off + i) 0) } else none
    | .one (.ptr k i' j) =>
      match t.desc with
      | .array n e => do
        let te ← E.ti e
        if i < n then some { v := .one (.ptr k i' (j + i * te.size)) } else none
      | _ => none
    | .one (.iptr fr sz l i' j) =>
      match t.desc with
      | .array n e => do
        let te ← E.ti e
        if i < n then some { v := .one (.iptr fr sz l i' (j + i * te.size)) } else none
      | _ => none
    | _ => none
  | .index ty x ix => do
    let t ← E.ti ty
    let i ← asNat (← ρ ix)
    match ← ρ x with
    | .agg cs =>
      match t.desc with
      | .array n e => do
        let te ← E.ti e
        if i < n then some { v := ← ofCells (isAggD te.desc) (← cut cs (i * te.size) (if isAggD te.desc then te.size else 1)) } else none
      | _ => none
    | _ => none
  | .extract tp ix => do
    match ← ρ tp with
    | .tup ds => do some { v := ← ds[ix]? }
    | _ => none
  | .call c =>
    match c.callee with
    | .builtin b => do
      let t ← E.ti (← c.argTypes[0]?)
      let args ← c.args.toList.mapM ρ
      match b, args with
      | .len, [x] =>
        match t.desc with
        | .slice _ => do some { v := mk (.int .i64 (← lenD x)) }
        | .string => do
          match ← plain x with
          | .string s => some { v := mk (.int .i64 s.size) }
          | _ => none
        | .array n _ => some { v := mk (.int .i64 n) }
        | _ => none
      | .append, [a, x] => do
        let e ← E.ti (← elemOf t)
        let t1 ← E.ti (← c.argTypes[1]?)
        let _ ← elemOf t1
        append H nid e.size a x
      | .copy, [a, x] => do
        let e ← E.ti (← elemOf t)
        let t1 ← E.ti (← c.argTypes[1]?)
        let _ ← elemOf t1
        copyD H e.size a x
      | .min, [a, b] => do
        match ← plain a, ← plain b with
        | .int k x, .int _ y => some { v := mk (.int k (if y < x then y else x)) }
        | _, _ => none
      | .max, [a, b] => do
        match ← plain a, ← plain b with
        | .int k x, .int _ y => some { v := mk (.int k (if y > x then y else x)) }
        | _, _ => none
      | _, _ => none
    | _ => none
  | _ => none

/-- The datum that a cell shows; is all of it new? -/
def view (H : Heap) : Nat → C → Option (Bool × T)
  | _, .p fr t => some (match t with | .v _ => true | _ => fr, t)
  | d + 1, .own k off n => do
    let (sz, es) ← getBlk H k
    let es ← cut es off n
    let r ← es.mapM (·.mapM (view H d))
    some (r.all (·.all (·.1)), .s true sz (r.map (·.map (·.2))))
  | _, _ => none
def viewD (H : Heap) : D → Option (Bool × TD)
  | .one c => do
    let (b, t) ← view H 6 c
    some (b, .one t)
  | .agg cs => do
    let r ← cs.mapM (view H 6)
    some (r.all (·.1), .agg (r.map (·.2)))
  | .tup _ => none
def unview (fr : Bool) : TD → D
  | .one t => .one (pC fr t)
  | .agg ts => .agg (ts.map (pC fr))
def isOwned : C → Bool
  | .p _ _ => false
  | _ => true
def ownedD : D → Bool
  | .one c => isOwned c
  | .agg cs => cs.any isOwned
  | .tup _ => true
def tupD : List D → D
  | [d] => d
  | ds => .tup ds

structure St where
  t : List D
  h : Heap

def constD : Value → Option D
  | .agg cs => if cs.toList.all one1 then some (.agg (cs.toList.map zeroC)) else none
  | .tuple _ => none
  | v => some (.one (zeroC v))
def opndG (g : Tmp → Option D) : Operand → Option D
  | .tmp i => g i
  | .const v => constD v
  | .global _ => none
  | .func f => some (mk (.func (.func f) #[] #[]))

abbrev slots (t : List D) : Tmp → Option D := fun i => t[i]?
abbrev opnd (t : List D) : Operand → Option D := opndG (slots t)
abbrev CallP := FuncId → List TD → Option (Kind × List TD)
abbrev CallF := FuncId → List D → Heap → Option (D × Heap)
/-- A function that is ranged over, with the rounds. -/
abbrev RunF := YldP → FuncId → List D → Heap → Option Heap
structure CallG where
  f : CallF
  r : RunF
  y : YldP
def resolveD (c : Call) (ρ : Operand → Option D) : Option (FuncId × List D) :=
  match c.callee with
  | .value f => do
    let args ← c.args.toList.mapM ρ
    match ← ρ f with
    | .one (.p _ (.v (.func (.func k) first cap))) => if first.size = 0 ∧ cap.size = 0 then some (k, args) else none
    | .one (.clo (.func k) first cap) => some (k, first.map .one ++ args ++ cap.map .one)
    | _ => none
  | _ => none
/-- A call of data, that is handed data back. -/
def pcall (cp : CallP) (nid : Nat) (c : Call) (g : Tmp → Option D) (H : Heap) : Option Eff := do
  let (f, args) ← resolveD c (opndG g)
  let vs ← args.mapM (viewD H)
  let (kind, rs) ← cp f (vs.map (·.2))
  match kind with
  | .own =>
    match rs with
    | [.one (.s true sz l)] => some { v := .one (.own nid 0 l.length), upd := [(nid, .own sz (l.map (·.map (pC true))))] }
    | _ => none
  | .fresh => some { v := tupD (rs.map (unview true)) }
  | .any => if args.any ownedD then none else some { v := tupD (rs.map (unview (vs.all (·.1)))) }
def isCall : Op → Option Call
  | .call c => match c.callee with
    | .builtin _ => none
    | _ => some c
  | _ => none
def setT (t : List D) (d : Option Tmp) (v : D) : Option (List D) :=
  match d with
  | none => some t
  | some d => if d < t.length then some (t.set d v) else none
def apply (H : Heap) (u : List (Nat × Blk)) : Heap := u.foldl (fun H p => putBlk H p.1 p.2) H
def wantedD (ops : Array Oper) (t : Tmp → Option D) (o : Oper) : Option Bool :=
  match o.guard with
  | none => some true
  | some (j, want) => do
    let g ← ops[j]?
    let d ← g.dst
    match ← t d with
    | .one (.p _ (.v (.bool b))) => some (b == want)
    | .tup [] => some false
    | _ => none
/-- One operation, but a call that shares what is owned. -/
def step (E : Env) (cp : CallP) (ops : Array Oper) (nid : Nat) (o : Oper) (t : Tmp → Option D) (H : Heap) : Option Eff := do
  if ← wantedD ops t o then
    match isCall o.op with
    | some c => pcall cp nid c t H
    | none => sem E nid o (opndG t) H
  else some { v := undefD }
def scall (cf : CallG) (ops : Array Oper) (o : Oper) (s : St) : Option St := do
  if ← wantedD ops (slots s.t) o then
    match isCall o.op with
    | some c => do
      let (f, args) ← resolveD c (opnd s.t)
      let (v, h) ← cf.f f args s.h
      some { t := ← setT s.t o.dst v, h }
    | none => none
  else none
/-- A loop's block has as many empty rows as its status tells: none: on; else how a round has left. -/
def ycode : Ex → Nat
  | .normal => 0
  | .ret => 1
  | .exit id => id + 2
def yblk (e : Ex) : Blk := .own 0 (List.replicate (ycode e) [])
def ycall (cf : CallG) (ops : Array Oper) (o : Oper) (s : St) : Option St := do
  if ← wantedD ops (slots s.t) o then
    match isCall o.op with
    | some c =>
      match c.callee with
      | .value f => do
        let args ← c.args.toList.mapM (opnd s.t)
        match ← opnd s.t f with
        | .one (.yld k) => do
          let (sz, es) ← getBlk s.h k
          if sz = 0 ∧ es = [] then
            let (e, h) ← cf.y k args s.h
            some { t := ← setT s.t o.dst (mk (.bool (e == .normal))), h := putBlk h k (yblk e) }
          else none
        | _ => none
      | _ => none
    | none => none
  else none
def put (o : Oper) (s : St) (e : Eff) : Option St := do some { t := ← setT s.t o.dst e.v, h := apply s.h e.upd }
def evOp (E : Env) (cp : CallP) (cf : CallG) (ops : Array Oper) (o : Oper) (s : St) : Option St :=
  match step E cp ops s.h.length o (slots s.t) s.h with
  | some e => put o s e
  | none => (scall cf ops o s).or (ycall cf ops o s)
def evOps (E : Env) (cp : CallP) (cf : CallG) (ops : Array Oper) : List Oper → St → Option St
  | [], s => some s
  | o :: r, s => do evOps E cp cf ops r (← evOp E cp cf ops o s)
def evLoop (b : St → Option (Ex × St)) : Nat → St → Option (Ex × St)
  | 0, _ => none
  | m + 1, s => do
    let (e, s) ← b s
    match e with
    | .normal => evLoop b m s
    | _ => some (e, s)

/-! A region that draws its order: in the order of its text, each operation without the blocks that others, whose order is open, turn. -/
def mask (H : Heap) (l : List Nat) : Heap := l.foldl (fun H k => if k < H.length then H.set k .no else H) H
def looks (ops : Array Oper) (o : Oper) : List Tmp :=
  (o.op.operands.toList.filterMap fun | .tmp t => some t | _ => none) ++
  (match o.guard with
   | some (g, _) => ((ops[g]?).bind (·.dst)).toList
   | none => [])
/-- The slots that an operation looks at, and no others. -/
def only (l : List Tmp) (t : List D) : Tmp → Option D := fun i => if l.contains i then t[i]? else none
def ids (e : Eff) : List Nat := e.upd.map (·.1)
def evDraw1 (E : Env) (cp : CallP) (ops : Array Oper) (b : Nat) : Nat → List Oper → St → Option (List (List Nat))
  | _, [], s => some []
  | i, o :: r, s => do
    let e ← step E cp ops (b + i) o (only (looks ops o) s.t) s.h
    let l ← evDraw1 E cp ops b (i + 1) r (← put o s e)
    some (ids e :: l)
def disjoint (a b : List Nat) : Bool := a.all fun x => !b.contains x
def evDraw2 (E : Env) (cp : CallP) (ops : Array Oper) (b : Nat) (U M : Nat → List Nat) : Nat → List Oper → St → Option St
  | _, [], s => some s
  | i, o :: r, s => do
    let e ← step E cp ops (b + i) o (only (looks ops o) s.t) (mask s.h (M i))
    if ids e = U i ∧ (U i).all (· < s.h.length) = true then evDraw2 E cp ops b U M (i + 1) r (← put o s e) else none
def unordered (A : Nat → Nat) (i j : Nat) : Bool := i != j && !(A i).testBit j && !(A j).testBit i
def apartB (ops : Array Oper) (x y : Oper) : Bool :=
  (match x.dst with
   | some d => !(looks ops y).contains d && y.dst != some d
   | none => true) &&
  (match y.dst with
   | some d => !(looks ops x).contains d
   | none => true)
def noDefer (o : Oper) : Bool :=
  match o.op with
  | .defer _ => false
  | _ => true
/-- May each two operations whose order is open change places? -/
def drawOk (ops : Array Oper) (b : Nat) (A : Nat → Nat) (U : Nat → List Nat) : Bool :=
  (ops.toList.all noDefer) && (ops.toList.zipIdx.all fun x => x.1.after.all fun e => !Region.binds .any e || decide (e.on < x.2)) &&
  ops.toList.zipIdx.all fun x => ops.toList.zipIdx.all fun y => (!decide (x.2 < y.2) || !(A x.2).testBit y.2) && (x.2 == y.2 || (A x.2).testBit y.2 || !(U x.2).contains (b + y.2)) && (!unordered A x.2 y.2 || (apartB ops x.1 y.1 && disjoint (U x.2) (U y.2)))
def evDraw (E : Env) (cp : CallP) (ops : Array Oper) (s : St) : Option St := do
  let b := s.h.length
  let s0 : St := { s with h := s.h ++ List.replicate ops.size .no }
  let A0 := (Region.before ops).toList
  let U0 ← evDraw1 E cp ops b 0 ops.toList s0
  let A := fun i => A0.getD i 0
  let U := fun i => U0.getD i []
  let M0 := (List.range ops.size).map fun i => ((List.range ops.size).filter (unordered A i)).flatMap U
  if drawOk ops b A U then evDraw2 E cp ops b U (fun i => M0.getD i []) 0 ops.toList s0 else none

/-- A call of a value that is a function. -/
def valCall (o : Oper) : Bool :=
  match o.op with
  | .call c => match c.callee with
    | .value (.func _) => false
    | .value _ => true
    | _ => false
  | _ => false
def firstVal : List Oper → Nat → Option Nat
  | [], _ => none
  | o :: l, i => if valCall o then some i else firstVal l (i + 1)
/-- Where a region that draws its order has a first call of a value, and this and all behind it stand in one order, behind all that stands ahead. -/
def cutAt (ops : Array Oper) : Option Nat :=
  let A0 := (Region.before ops).toList
  match firstVal ops.toList 0 with
  | some m => if m ≤ ops.size ∧ (List.range ops.size).all (fun i => decide (i < m) || (List.range i).all fun j => (A0.getD i 0).testBit j) = true then some m else none
  | none => none
/-- A region that draws: what stands ahead of a place turns nothing; from there on it stands in one order. -/
def evCut (E : Env) (cp : CallP) (cf : CallG) (ops : Array Oper) (m : Nat) (s : St) : Option St := do
  let b := s.h.length
  let s0 : St := { s with h := s.h ++ List.replicate ops.size .no }
  let A0 := (Region.before ops).toList
  if drawOk ops b (fun i => A0.getD i 0) (fun _ => []) then do
    let s1 ← evDraw2 E cp ops b (fun _ => []) (fun _ => []) 0 (ops.toList.take m) s0
    evOps E cp cf ops (ops.toList.drop m) s1
  else none

def setPs (t : List D) : List Tmp → List D → List D
  | p :: ps, d :: ds => setPs (t.set p d) ps ds
  | _, _ => t
/-- How a loop's block tells that it was left. -/
def yout : List (List C) → Ex
  | [] => .normal
  | [_] => .ret
  | _ :: _ :: l => .exit l.length
def evC (E : Env) (cp : CallP) (cf : CallG) (m : Nat) : Code → St → Option (Ex × St)
  | .skip, s => some (.normal, s)
  | .region _ ops draw, s => if draw then (match cutAt ops with | some m => evCut E cp cf ops m s | none => evDraw E cp ops s).map fun s => (.normal, s) else (evOps E cp cf ops ops.toList s).map fun s => (.normal, s)
  | .seq a b, s => do
    let (e, s) ← evC E cp cf m a s
    match e with
    | .normal => evC E cp cf m b s
    | _ => some (e, s)
  | .cond c a b, s => do
    let t ← asBool (← opnd s.t c)
    if t then evC E cp cf m a s else evC E cp cf m b s
  | .block id b, s => do
    let (e, s) ← evC E cp cf m b s
    some (if e = .exit id then .normal else e, s)
  | .loop b, s => evLoop (evC E cp cf m b) m s
  | .exit id, s => some (.exit id, s)
  | .ret, s => some (.ret, s)
  | .label _, s => some (.normal, s)
  | .scope b, s => evC E cp cf m b s
  | .rangeFunc g ps asg body, s => do
    match ← opnd s.t g with
    | .one (.clo (.func f) first cap) => do
      let k := s.h.length
      let y : YldP := fun j args h =>
        if j = k ∧ args.length = ps.toList.length then do
          let (e, s1) ← evC E cp cf m asg { t := setPs s.t ps.toList args, h := h }
          match e with
          | .normal => do
            let (e, s2) ← evC E cp cf m body s1
            some (e, s2.h)
          | _ => none
        else none
      let h ← cf.r y f (first.map .one ++ [.one (.yld k)] ++ cap.map .one) (putBlk s.h k (.own 0 []))
      let (sz, es) ← getBlk h k
      if sz = 0 then some (yout es, { t := s.t, h := h }) else none
    | _ => none
  | _, _ => none
def resultD (E : Env) (s : St) : ResultVar → Option D
  | .tmp t => s.t[t]?
  | .cell a ty => do
    let t ← E.ti ty
    load s.h (isAggD t.desc) (if isAggD t.desc then t.size else 1) (← s.t[a]?)
def evFn (E : Env) (cp : CallP) (cf : CallG) (m : Nat) (f : FI) (args : List D) (H : Heap) : Option (List D × Heap) := do
  let (e, s) ← evC E cp cf m f.body { t := args ++ List.replicate (f.nt - args.length) undefD, h := H }
  match e with
  | .exit _ => none
  | _ => do some (← f.results.mapM (resultD E s), s.h)
def plainB : C → Bool
  | .p true (.v _) => true
  | _ => false
/-- Is it one slice of plain values, a block as a whole? -/
def ownRes (h : Heap) : List D → Bool
  | [.one (.own k 0 n)] =>
    match getBlk h k with
    | some (_, es) => n == es.length && es.all (·.all plainB)
    | none => false
  | _ => false
/-- A call of data by its code. -/
def pureFn (E : Env) (cp : CallP) (cf : CallG) (m : Nat) (f : FI) (vs : List TD) : Option (Kind × List TD) := do
  let (rs, h) ← evFn E cp cf m f (vs.map (unview false)) []
  let l ← rs.mapM (viewD h)
  some (if ownRes h rs then .own else if l.all (·.1) then .fresh else .any, l.map (·.2))
def callersN (E : Env) (m : Nat) : Nat → CallP × CallF × RunF
  | 0 => (fun _ _ => none, fun _ _ _ => none, fun _ _ _ _ => none)
  | n + 1 => (fun k vs =>
      match E.ax k with
      | some F => F vs
      | none => do
        let f ← E.fn k
        pureFn E (callersN E m n).1 ⟨(callersN E m n).2.1, (callersN E m n).2.2, noY⟩ m f vs,
    fun k args H => do
      let f ← E.fn k
      let (rs, h) ← evFn E (callersN E m n).1 ⟨(callersN E m n).2.1, (callersN E m n).2.2, noY⟩ m f args H
      some (tupD rs, h),
    fun y k args H => do
      let f ← E.fn k
      let (_, h) ← evFn E (callersN E m n).1 ⟨(callersN E m n).2.1, (callersN E m n).2.2, y⟩ m f args H
      some h)
/-- Calls of functions; and the rounds of the loop that a function is ranged over in. -/
def callersY (E : Env) (y : Nat → YldP) (m n : Nat) : CallP × CallG := ((callersN E m n).1, ⟨(callersN E m n).2.1, (callersN E m n).2.2, y m⟩)
def callers (E : Env) (m n : Nat) : CallP × CallG := callersY E (fun _ => noY) m n
end Ev
end Go.Proofs.YtjomjfjbpcafhaaDoor
