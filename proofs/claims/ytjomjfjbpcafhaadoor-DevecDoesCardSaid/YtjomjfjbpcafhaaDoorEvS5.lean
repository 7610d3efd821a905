/- Calls followed within, closures, and loops over functions. No program is named here. -/
import Derived.Test.YtjomjfjbpcafhaaDoorEvS4
namespace Go.Proofs.YtjomjfjbpcafhaaDoor
namespace Ev
open Go Go.RowKit
set_option linter.unusedVariables false
set_option linter.unusedSimpArgs false

section
variable {E : Env} {y : Nat → YldP} {n nt : Nat} {f : Nat → D} {L : BL}
def capsOf (nt : Nat) (f : Nat → D) (l : List Operand) : Option (List C) := l.mapM fun x => do match ← ov nt f x with | .one c => some c | _ => none
theorem q_mkfun {fn : Fn} {first cap : Array Operand} {fs cs : List C} (h1 : capsOf nt f first.toList = some fs) (h2 : capsOf nt f cap.toList = some cs) : PS E n nt f L (.makeFunc fn first cap) (.one (.clo fn fs cs)) := fun h nid hb => by
  show ((first.toList.mapM fun x => (opndG (slots (tab nt f)) x).bind fun d => match d with | .one c => some c | _ => none).bind fun a => (cap.toList.mapM fun x => (opndG (slots (tab nt f)) x).bind fun d => match d with | .one c => some c | _ => none).bind fun b => some (⟨.one (.clo fn a b), []⟩ : Eff)) = _
  rw [ov_fun]
  have h1' : (first.toList.mapM fun x => (ov nt f x).bind fun d => match d with | .one c => some c | _ => none) = some fs := h1
  have h2' : (cap.toList.mapM fun x => (ov nt f x).bind fun d => match d with | .one c => some c | _ => none) = some cs := h2
  rw [h1', h2']; rfl

def complI (k : IntKind) (a : Int) : Int := xorI k (if k.signed then -1 else k.max) a
theorem q_compl {ty : TypeId} {x : Operand} {fr : Bool} {k : IntKind} {a : Int} (hx : ov nt f x = some (.one (.p fr (.v (.int k a))))) : PS E n nt f L (.unOp .xor ty x) (iD k (complI k a)) := fun h nid hb => by
  show ((opndG (slots (tab nt f)) x).bind fun d => (plain d).bind fun v => (pureOf E.P (Op.unary .xor v)).bind mkO) = _
  rw [ov_eq, hx]
  cases k <;> rfl
/-- What no view shows. -/
def unvC : C → Bool
  | .p _ _ => false
  | .own _ _ _ => false
  | _ => true
def unv : D → Bool
  | .one c => unvC c
  | .agg cs => cs.any unvC
  | .tup _ => true
theorem view_unv {h : Heap} {c : C} (hc : unvC c = true) (m : Nat) : view h (m + 1) c = none := by
  cases c <;> simp [unvC] at hc <;> rfl
theorem mapM_none {α β : Type} {g : α → Option β} : ∀ {l : List α}, (∃ x ∈ l, g x = none) → l.mapM g = none
  | [], h => by obtain ⟨x, hx, _⟩ := h; simp at hx
  | a :: l, h => by
    rw [List.mapM_cons]
    cases ha : g a with
    | none => rfl
    | some b =>
      obtain ⟨x, hx, hg⟩ := h
      rcases List.mem_cons.1 hx with rfl | hx
      · rw [ha] at hg; simp at hg
      · rw [mapM_none ⟨x, hx, hg⟩]; rfl
theorem viewD_unv {h : Heap} {d : D} (hd : unv d = true) : viewD h d = none := by
  cases d with
  | one c =>
    show (view h 6 c).bind _ = none
    rw [view_unv hd]; rfl
  | agg cs =>
    obtain ⟨c, hc, hu⟩ := List.any_eq_true.1 hd
    show (cs.mapM (view h 6)).bind _ = none
    rw [mapM_none ⟨c, hc, view_unv hu 5⟩]; rfl
  | tup ds => rfl
theorem views_unv {h : Heap} {ds : List D} (hd : ds.any unv = true) : ds.mapM (viewD h) = none := by
  obtain ⟨d, h1, h2⟩ := List.any_eq_true.1 hd
  exact mapM_none ⟨d, h1, viewD_unv h2⟩

/-- The slots of a call's frame. -/
def fA (args : List D) : Nat → D := fun i => args.getD i undefD
theorem tab_fA {args : List D} {k : Nat} (hl : args.length ≤ k) : args ++ List.replicate (k - args.length) undefD = tab k (fA args) := by
  rw [tab_of (args ++ List.replicate (k - args.length) undefD)]
  have hlen : (args ++ List.replicate (k - args.length) undefD).length = k := by simp; omega
  rw [hlen]
  refine List.ext_getElem? fun i => ?_
  rw [tab_get, tab_get]
  split
  · rename_i hi
    congr 1
    unfold fA
    rw [List.getD_eq_getElem?_getD, List.getD_eq_getElem?_getD, List.getElem?_append]
    split
    · rfl
    · rename_i hge
      rw [List.getElem?_replicate, if_pos (by omega), List.getElem?_eq_none (by omega)]; rfl
  · rfl
/-- What is behind a call's code: its results, and on in the caller. -/
def callQ (E : Env) (y : Nat → YldP) (n nt : Nat) (ops : Array Oper) (r : List Oper) (K : St → Prop) (f : Nat → D) (d : Nat) (rv : List ResultVar) : Ex → St → Prop := fun e s => (e = .normal ∨ e = .ret) ∧ ∃ ds, rv.mapM (resultD E s) = some ds ∧ OpsW E y n ops r K { t := tab nt (up f d (tupD ds)), h := s.h }
variable {ops : Array Oper} {o : Oper} {r : List Oper} {K : St → Prop} {d : Nat} {Q : Ex → St → Prop}
theorem want_wanted {b : Bool} (h : wantF ops o nt f = some b) : wantedD ops (slots (tab nt f)) o = some b := by
  obtain ⟨g, g1, g2⟩ := wantF_eq h
  unfold gOf at g1
  unfold wantedD
  cases ho : o.guard with
  | none => rw [ho] at g1; simp only [Option.some.injEq] at g1; subst g1; exact g2
  | some p =>
    obtain ⟨j, w⟩ := p
    rw [ho] at g1
    simp only [Option.map_eq_some_iff] at g1
    obtain ⟨d, h1, h2⟩ := g1
    subst h2
    rw [Option.bind_eq_some_iff] at h1
    obtain ⟨o', h3, h4⟩ := h1
    have h3' : ops[j]? = some o' := by simpa using h3
    simp only [h3', h4, Option.bind_eq_bind, Option.bind_some]
    exact g2
theorem step_call {cp : CallP} {c : Call} {nid : Nat} {H : Heap} (hw : wantF ops o nt f = some true) (hc : isCall o.op = some c) : step E cp ops nid o (slots (tab nt f)) H = pcall cp nid c (slots (tab nt f)) H := by
  unfold step
  rw [want_wanted hw]
  simp only [Option.bind_eq_bind, Option.bind_some, if_true, hc]
/-- A call that is handed what no view shows, followed within. -/
theorem ol_scall {c : Call} {k : FuncId} {args : List D} {fi : FI} (hw : wantF ops o nt f = some true) (hc : isCall o.op = some c) (hr : resolveD c (ov nt f) = some (k, args)) (hu : args.any unv = true) (hf : E.fn k = some fi) (hl : Nat.ble args.length fi.nt = true) (hd : o.dst = some d) (hn : Nat.blt d nt = true)
    (h : WpL E nY n fi.nt fi.body (callQ E y (n + 1) nt ops r K f d fi.results) (fA args) L) : OpsL E y (n + 1) nt ops (o :: r) K f L := fun H hb => by
  obtain ⟨e, s', ⟨M, h1⟩, h2, ds, h3, h4⟩ := h H hb
  refine opsW_cons (s1 := { t := tab nt (up f d (tupD ds)), h := s'.h }) ⟨M, fun m hm => ?_⟩ h4
  unfold evOp
  have hs : step E (callersY E y m (n + 1)).1 ops H.length o (slots (tab nt f)) H = none := by
    rw [step_call hw hc]
    unfold pcall
    rw [ov_fun, hr]
    simp only [Option.bind_eq_bind, Option.bind_some, views_unv hu]
    rfl
  simp only
  rw [hs]
  have hev := h1 m hm
  have hsc : scall (callersY E y m (n + 1)).2 ops o { t := tab nt f, h := H } = some { t := tab nt (up f d (tupD ds)), h := s'.h } := by
    unfold scall
    rw [want_wanted hw]
    simp only [Option.bind_eq_bind, Option.bind_some, if_true, hc]
    have hr' : resolveD c (opnd (tab nt f)) = some (k, args) := by
      show resolveD c (opndG (slots (tab nt f))) = _
      rw [ov_fun]; exact hr
    rw [hr']
    have hcall : (callersY E y m (n + 1)).2.f k args H = some (tupD ds, s'.h) := by
      show ((E.fn k).bind fun f => (evFn E (callersN E m n).1 ⟨(callersN E m n).2.1, (callersN E m n).2.2, noY⟩ m f args H).bind fun x => some (tupD x.1, x.2)) = _
      rw [hf]
      simp only [Option.bind_some]
      have : evFn E (callersN E m n).1 ⟨(callersN E m n).2.1, (callersN E m n).2.2, noY⟩ m fi args H = some (ds, s'.h) := by
        unfold evFn
        rw [tab_fA (Nat.le_of_ble_eq_true hl)]
        simp only [callersY] at hev
        rw [hev]
        rcases h2 with rfl | rfl <;> simp [h3]
      rw [this]; rfl
    simp only [Option.bind_some, hcall, hd, setT, tab_len, blt_lt hn, if_true, tab_set, up_eq]
  rw [hsc]; rfl
/-- A call of a function that is never called as one on data, followed within. -/
theorem ol_scallN {c : Call} {k : FuncId} {args : List D} {fi : FI} (hw : wantF ops o nt f = some true) (hc : isCall o.op = some c) (hr : resolveD c (ov nt f) = some (k, args)) (hu : E.ax k = some fun _ => none) (hf : E.fn k = some fi) (hl : Nat.ble args.length fi.nt = true) (hd : o.dst = some d) (hn : Nat.blt d nt = true)
    (h : WpL E nY n fi.nt fi.body (callQ E y (n + 1) nt ops r K f d fi.results) (fA args) L) : OpsL E y (n + 1) nt ops (o :: r) K f L := fun H hb => by
  obtain ⟨e, s', ⟨M, h1⟩, h2, ds, h3, h4⟩ := h H hb
  refine opsW_cons (s1 := { t := tab nt (up f d (tupD ds)), h := s'.h }) ⟨M, fun m hm => ?_⟩ h4
  unfold evOp
  have hs : step E (callersY E y m (n + 1)).1 ops H.length o (slots (tab nt f)) H = none := by
    rw [step_call hw hc]
    unfold pcall
    rw [ov_fun, hr]
    simp only [Option.bind_eq_bind, Option.bind_some]
    cases args.mapM (viewD H) with
    | none => rfl
    | some vs =>
      have hn : (callersY E y m (n + 1)).1 k (vs.map (·.2)) = none := by
        show (match E.ax k with
          | some F => F _
          | none => _) = none
        rw [hu]
      simp only [Option.bind_some, hn]
      rfl
  simp only
  rw [hs]
  have hev := h1 m hm
  have hsc : scall (callersY E y m (n + 1)).2 ops o { t := tab nt f, h := H } = some { t := tab nt (up f d (tupD ds)), h := s'.h } := by
    unfold scall
    rw [want_wanted hw]
    simp only [Option.bind_eq_bind, Option.bind_some, if_true, hc]
    have hr' : resolveD c (opnd (tab nt f)) = some (k, args) := by
      show resolveD c (opndG (slots (tab nt f))) = _
      rw [ov_fun]; exact hr
    rw [hr']
    have hcall : (callersY E y m (n + 1)).2.f k args H = some (tupD ds, s'.h) := by
      show ((E.fn k).bind fun f => (evFn E (callersN E m n).1 ⟨(callersN E m n).2.1, (callersN E m n).2.2, noY⟩ m f args H).bind fun x => some (tupD x.1, x.2)) = _
      rw [hf]
      simp only [Option.bind_some]
      have : evFn E (callersN E m n).1 ⟨(callersN E m n).2.1, (callersN E m n).2.2, noY⟩ m fi args H = some (ds, s'.h) := by
        unfold evFn
        rw [tab_fA (Nat.le_of_ble_eq_true hl)]
        simp only [callersY] at hev
        rw [hev]
        rcases h2 with rfl | rfl <;> simp [h3]
      rw [this]; rfl
    simp only [Option.bind_some, hcall, hd, setT, tab_len, blt_lt hn, if_true, tab_set, up_eq]
  rw [hsc]; rfl
theorem E_call {nt' : Nat} {f' : Nat → D} {L' : BL} {rv : List ResultVar} {ds : List D} {e : Ex} {v : D} (he : e = .normal ∨ e = .ret) (hr : ResL E nt' f' L' rv ds) (hv : tupD ds = v) (h : OpsL E y n nt ops r K (up f d v) L') : EndL nt' (callQ E y n nt ops r K f d rv) e f' L' := fun H hb => by
  subst hv
  exact ⟨he, ds, hr H hb, h H hb⟩

/-! Loops over functions. -/
/-- A round, out of the slots of the loop's frame. -/
def roundY (E : Env) (y : Nat → YldP) (n k : Nat) (t : List D) (ps : List Tmp) (asg body : Code) : Nat → YldP := fun m j args h =>
  if j = k ∧ args.length = ps.length then do
    let (e, s1) ← evC E (callersY E y m n).1 (callersY E y m n).2 m asg { t := setPs t ps args, h := h }
    match e with
    | .normal => do
      let (e, s2) ← evC E (callersY E y m n).1 (callersY E y m n).2 m body s1
      some (e, s2.h)
    | _ => none
  else none
def rangeQ (nt : Nat) (f : Nat → D) (k : Nat) (Q : Ex → St → Prop) : Ex → St → Prop := fun e s => (e = .normal ∨ e = .ret) ∧ ∃ es, getBlk s.h k = some (0, es) ∧ Q (yout es) { t := tab nt f, h := s.h }
theorem L_range {g : Operand} {ps : Array Tmp} {asg body : Code} {k : FuncId} {fs cs : List C} {fi : FI} (hg : ov nt f g = some (.one (.clo (.func k) fs cs))) (hf : E.fn k = some fi) (hl : Nat.ble (fs.length + 1 + cs.length) fi.nt = true) (hres : fi.results = [])
    (h : ∀ kl, WpL E (roundY E y (n + 1) kl (tab nt f) ps.toList asg body) n fi.nt fi.body (rangeQ nt f kl Q) (fA (fs.map D.one ++ [D.one (.yld kl)] ++ cs.map D.one)) ([(kl, 0, [])] :: L)) : WpL E y (n + 1) nt (.rangeFunc g ps asg body) Q f L := fun H hb => by
  obtain ⟨e, s', ⟨M, h1⟩, h2, es, h3, h4⟩ := h H.length _ (hb.new 0 [])
  refine ⟨yout es, { t := tab nt f, h := s'.h }, ⟨M, fun m hm => ?_⟩, h4⟩
  have hev := h1 m hm
  have hg' : opnd (tab nt f) g = some (.one (.clo (.func k) fs cs)) := (ov_eq nt f g).trans hg
  simp only [evC, Option.bind_eq_bind, hg', Option.bind_some]
  have hcall : (callersY E y m (n + 1)).2.r (roundY E y (n + 1) H.length (tab nt f) ps.toList asg body m) k (fs.map D.one ++ [D.one (.yld H.length)] ++ cs.map D.one) (putBlk H H.length (.own 0 [])) = some s'.h := by
    show ((E.fn k).bind fun f => (evFn E (callersN E m n).1 ⟨(callersN E m n).2.1, (callersN E m n).2.2, roundY E y (n + 1) H.length (tab nt _) ps.toList asg body m⟩ m f _ _).bind fun x => some x.2) = _
    rw [hf]
    simp only [Option.bind_some]
    have : evFn E (callersN E m n).1 ⟨(callersN E m n).2.1, (callersN E m n).2.2, roundY E y (n + 1) H.length (tab nt f) ps.toList asg body m⟩ m fi (fs.map D.one ++ [D.one (.yld H.length)] ++ cs.map D.one) (putBlk H H.length (.own 0 [])) = some ([], s'.h) := by
      unfold evFn
      rw [tab_fA (by have := Nat.le_of_ble_eq_true hl; simp; omega)]
      simp only [callersY] at hev
      rw [hev, hres]
      rcases h2 with rfl | rfl <;> rfl
    rw [this]; rfl
  refine (congrArg (fun z : Option Heap => z.bind fun h => (getBlk h H.length).bind fun x => if x.1 = 0 then some (yout x.2, ({ t := tab nt f, h := h } : St)) else none) hcall).trans ?_
  simp only [Option.bind_some, h3, if_true]
theorem E_range {nt' k p : Nat} {f' : Nat → D} {L' : BL} {es : List (List C)} {e : Ex} (he : e = .normal ∨ e = .ret) (hp : L'[p]? = some [(k, 0, es)]) (h : EndL nt Q (yout es) f L') : EndL nt' (rangeQ nt f k Q) e f' L' := fun H hb => ⟨he, es, hb.get hp, h H hb⟩

def thenR (K : St → Prop) : Ex → St → Prop := fun e s => e = .normal ∧ K s
/-- What is behind a round: on in the function that is ranged over. -/
def roundQ (E : Env) (y : Nat → YldP) (n nt : Nat) (ops : Array Oper) (r : List Oper) (K : St → Prop) (f : Nat → D) (d k : Nat) : Ex → St → Prop := fun e s => OpsW E y n ops r K { t := tab nt (up f d (bD (e == .normal))), h := putBlk s.h k (yblk e) }
def setF (f : Nat → D) : List Tmp → List D → Nat → D
  | p :: ps, d :: ds => setF (up f p d) ps ds
  | _, _ => f
theorem tab_set' (f : Nat → D) (p : Nat) (d : D) : (tab nt f).set p d = tab nt (up f p d) := by
  rw [← up_eq]
  refine List.ext_getElem? fun i => ?_
  rw [List.getElem?_set, tab_get, tab_get, tab_len]
  unfold upd
  by_cases h1 : p = i
  · subst h1
    by_cases h2 : p < nt
    · simp [h2]
    · simp [h2]
  · rw [if_neg h1]
    split
    · rw [if_neg (fun e : i = p => h1 e.symm)]
    · rfl
theorem setPs_tab : ∀ (ps : List Tmp) (ds : List D) (f : Nat → D), setPs (tab nt f) ps ds = tab nt (setF f ps ds)
  | [], [], f => by simp [setPs, setF]
  | [], d :: ds, f => by simp [setPs, setF]
  | p :: ps, [], f => by simp [setPs, setF]
  | p :: ps, d :: ds, f => by
    simp only [setPs, setF]
    rw [tab_set', setPs_tab]
def argsOf (nt : Nat) (f : Nat → D) (l : List Operand) : Option (List D) := l.mapM (ov nt f)
theorem ol_yield {y0 : Nat → YldP} {n0 nt0 k p : Nat} {f0 : Nat → D} {ps : List Tmp} {asg body : Code} {c : Call} {x : Operand} {args : List D} (hw : wantF ops o nt f = some true) (hc : isCall o.op = some c) (hcal : c.callee = .value x) (hx : ov nt f x = some (.one (.yld k))) (ha : argsOf nt f c.args.toList = some args) (hla : Nat.beq args.length ps.length = true) (hp : L[p]? = some [(k, 0, [])]) (hd : o.dst = some d) (hn : Nat.blt d nt = true)
    (h : WpL E y0 n0 nt0 asg (thenR (WpC E y0 n0 body (roundQ E (roundY E y0 n0 k (tab nt0 f0) ps asg body) n nt ops r K f d k))) (setF f0 ps args) L) : OpsL E (roundY E y0 n0 k (tab nt0 f0) ps asg body) n nt ops (o :: r) K f L := fun H hb => by
  obtain ⟨e1, s1, ⟨M1, h1⟩, rfl, e2, s2, ⟨M2, h2⟩, h3⟩ := h H hb
  refine opsW_cons (s1 := { t := tab nt (up f d (bD (e2 == .normal))), h := putBlk s2.h k (yblk e2) }) ⟨max M1 M2, fun m hm => ?_⟩ h3
  have hres : resolveD c (opndG (slots (tab nt f))) = none := by
    rw [ov_fun]
    unfold resolveD
    rw [hcal]
    have ha' : c.args.toList.mapM (ov nt f) = some args := ha
    simp only [ha', hx, Option.bind_eq_bind, Option.bind_some]
  unfold evOp
  have hs : step E (callersY E (roundY E y0 n0 k (tab nt0 f0) ps asg body) m n).1 ops H.length o (slots (tab nt f)) H = none := by
    rw [step_call hw hc]
    unfold pcall
    rw [hres]; rfl
  simp only
  rw [hs]
  have hsc : scall (callersY E (roundY E y0 n0 k (tab nt0 f0) ps asg body) m n).2 ops o { t := tab nt f, h := H } = none := by
    unfold scall
    rw [want_wanted hw]
    simp only [Option.bind_eq_bind, Option.bind_some, if_true, hc]
    have hr' : resolveD c (opnd (tab nt f)) = none := hres
    rw [hr']; rfl
  have hy : ycall (callersY E (roundY E y0 n0 k (tab nt0 f0) ps asg body) m n).2 ops o { t := tab nt f, h := H } = some { t := tab nt (up f d (bD (e2 == .normal))), h := putBlk s2.h k (yblk e2) } := by
    unfold ycall
    rw [want_wanted hw]
    simp only [Option.bind_eq_bind, Option.bind_some, if_true, hc, hcal]
    have ha' : c.args.toList.mapM (opnd (tab nt f)) = some args := by
      show c.args.toList.mapM (opndG (slots (tab nt f))) = _
      rw [ov_fun]; exact ha
    have hx' : opnd (tab nt f) x = some (.one (.yld k)) := (ov_eq nt f x).trans hx
    rw [ha', hx']
    simp only [Option.bind_some, hb.get hp, and_self, if_true]
    have hround : (callersY E (roundY E y0 n0 k (tab nt0 f0) ps asg body) m n).2.y k args H = some (e2, s2.h) := by
      show roundY E y0 n0 k (tab nt0 f0) ps asg body m k args H = _
      unfold roundY
      rw [if_pos ⟨rfl, Nat.eq_of_beq_eq_true hla⟩, setPs_tab, h1 m (by omega)]
      simp only [Option.bind_eq_bind, Option.bind_some]
      rw [h2 m (by omega)]; rfl
    rw [hround]
    simp only [Option.bind_some, hd, setT, tab_len, blt_lt hn, if_true, tab_set, up_eq]
    rfl
  rw [hsc, hy]; rfl
theorem E_asg {c : Code} (h : WpL E y n nt c Q f L) : EndL nt (thenR (WpC E y n c Q)) .normal f L := fun H hb => ⟨rfl, h H hb⟩
theorem getBlk_own {h : Heap} {k sz : Nat} {es : List (List C)} (hk : getBlk h k = some (sz, es)) : h[k]? = some (.own sz es) := getBlk_some hk
theorem E_roundN {nt' k p : Nat} {f' : Nat → D} (hp : L[p]? = some [(k, 0, [])]) (h : OpsL E y n nt ops r K (up f d (bD true)) L) : EndL nt' (roundQ E y n nt ops r K f d k) .normal f' L := fun H hb => by
  have := put_same (getBlk_own (hb.get hp))
  show OpsW E y n ops r K { t := _, h := putBlk H k (.own 0 []) }
  rw [this]
  exact h H hb
theorem E_roundX {nt' k p : Nat} {f' : Nat → D} {e : Ex} {es : List (List C)} {L' : BL} (he : (e == .normal) = false) (hes : List.replicate (ycode e) [] = es) (hp : L[p]? = some [(k, 0, [])]) (hL : L.set p [(k, 0, es)] = L') (h : OpsL E y n nt ops r K (up f d (bD false)) L') : EndL nt' (roundQ E y n nt ops r K f d k) e f' L := fun H hb => by
  subst hes hL
  show OpsW E y n ops r K { t := tab nt (up f d (bD (e == .normal))), h := putBlk H k (.own 0 _) }
  rw [he]
  exact h _ (hb.set hp 0 _)
end

/-! What is known of numbers. -/
theorem gt0_ne {n : Nat} (h : (n : Int) > 0) : ¬ (n : Int) = 0 := by omega
theorem len0 {n : Nat} (h : ¬ (n : Int) > 0) : (n : Int) = 0 := by omega
theorem eq0_ng {n : Nat} (h : (n : Int) = 0) : ¬ (n : Int) > 0 := by omega
theorem len1 {n : Nat} (h : ¬ (n : Int) = 0) : (n : Int) > 0 := by omega
theorem notle {a b : Int} (h : ¬ a ≤ b) : b ≤ a := by omega
/-! Which keys are apart, said by terms. -/
theorem ne_new {k b j : Nat} (h : k < b) : k ≠ b + j := by omega
theorem ne_add {b i j : Nat} (h : Nat.beq i j = false) : b + i ≠ b + j := by have := Nat.ne_of_beq_eq_false h; omega
theorem nin_nil {k : Nat} : k ∉ ([] : List Nat) := by simp
theorem nin_cons {k m : Nat} {l : List Nat} (h1 : k ≠ m) (h2 : k ∉ l) : k ∉ m :: l := fun h => by
  rcases List.mem_cons.1 h with h | h
  · exact h1 h
  · exact h2 h
theorem ltK_nil {b : Nat} : ∀ k ∈ ([] : List Nat), k < b := fun k h => by simp at h
theorem ltK_cons {b m : Nat} {l : List Nat} (h1 : m < b) (h2 : ∀ k ∈ l, k < b) : ∀ k ∈ m :: l, k < b := fun k h => by
  rcases List.mem_cons.1 h with h | h
  · subst h; exact h1
  · exact h2 k h
theorem ltO_nil {b : Nat} : ∀ l ∈ ([] : List (List Nat)), ∀ k ∈ l, k < b := fun k h => by simp at h
theorem ltO_cons {b : Nat} {a : List Nat} {O : List (List Nat)} (h1 : ∀ k ∈ a, k < b) (h2 : ∀ l ∈ O, ∀ k ∈ l, k < b) : ∀ l ∈ a :: O, ∀ k ∈ l, k < b := fun l h => by
  rcases List.mem_cons.1 h with h | h
  · subst h; exact h1
  · exact h2 l h
theorem djE {O : List (List Nat)} {r : List Nat} : ∀ j ∈ r, ∀ x ∈ ([] : List Nat), x ∉ O.getD j [] := fun c _ x h => by simp at h
theorem djN {O : List (List Nat)} {a : List Nat} : ∀ j ∈ ([] : List Nat), ∀ x ∈ a, x ∉ O.getD j [] := fun c h => by simp at h
theorem djC {O : List (List Nat)} {k j0 : Nat} {r : List Nat} (h1 : k ∉ O.getD j0 []) (h2 : ∀ j ∈ r, ∀ x ∈ [k], x ∉ O.getD j []) : ∀ j ∈ j0 :: r, ∀ x ∈ [k], x ∉ O.getD j [] := fun j h x hx => by
  rcases List.mem_cons.1 h with h | h
  · subst h; rw [List.mem_singleton.1 hx]; exact h1
  · exact h2 j h x hx

/-! Loops with several ways out. -/
section
variable {X Up KT : Type} {nt : Nat}
def JE (nt : Nat) (ex : Ex) (S : X → KT → (Nat → D) → Nat → D) (SL : X → KT → BL) (J : Up → Ex → St → Prop) : X ⊕ Up → Ex → St → Prop
  | .inl x, e, s => e = ex ∧ ∃ k g, s.t = tab nt (S x k g) ∧ HB s.h (SL x k)
  | .inr u, e, s => J u e s
def JU (G : Up → Ex → St → Prop) : Up → Ex → St → Prop := fun u e s => e = .ret ∧ G u .ret s
variable {ex : Ex} {S : X → KT → (Nat → D) → Nat → D} {SL : X → KT → BL} {J : Up → Ex → St → Prop} {G : Up → Ex → St → Prop}
theorem JE_n (h : (ex == .normal) = false) (hJ : ∀ r s, ¬ J r .normal s) : ∀ r s, ¬ JE nt ex S SL J r .normal s := fun r s hh => by
  cases r with
  | inl x => rw [← hh.1] at h; simp at h
  | inr u => exact hJ u s hh
theorem JU_n : ∀ r s, ¬ JU G r .normal s := fun r s h => absurd h.1 (by simp)
theorem E_je {x : X} {f : Nat → D} {L : BL} (k : KT) (hf : f = S x k f) (is : List Nat) (hn : is.Nodup) (hL : is.filterMap (fun i => L[i]?) = SL x k) : EndL nt (JE nt ex S SL J (.inl x)) ex f L := fun H hb => ⟨rfl, k, f, congrArg (tab nt) hf, hb.sub is hn hL⟩
theorem E_js {u : Up} {e : Ex} {f : Nat → D} {L : BL} (h : EndL nt (J u) e f L) : EndL nt (JE nt ex S SL J (.inr u)) e f L := h
theorem E_ju {u : Up} {f : Nat → D} {L : BL} (h : EndL nt (G u) .ret f L) : EndL nt (JU G u) .ret f L := fun H hb => ⟨rfl, h H hb⟩
theorem J_e {x : X} {Q : Ex → St → Prop} (h : ∀ k g, EndL nt Q ex (S x k g) (SL x k)) : ∀ e s, JE nt ex S SL J (.inl x) e s → Q e s := fun e s hs => by
  obtain ⟨rfl, k, g, h1, h2⟩ := hs
  obtain ⟨t, H⟩ := s
  simp only at h1 h2
  subst h1
  exact h k g H h2
theorem J_s {u : Up} {Q : Ex → St → Prop} (h : ∀ e s, J u e s → Q e s) : ∀ e s, JE nt ex S SL J (.inr u) e s → Q e s := h
theorem J_u {u : Up} {Q : Ex → St → Prop} (h : ∀ s, G u .ret s → Q .ret s) : ∀ e s, JU G u e s → Q e s := fun e s hs => by
  obtain ⟨rfl, h1⟩ := hs
  exact h s h1
end
end Ev
end Go.Proofs.YtjomjfjbpcafhaaDoor
