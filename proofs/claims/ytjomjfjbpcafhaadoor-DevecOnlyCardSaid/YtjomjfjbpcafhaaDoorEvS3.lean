/- More operations: shifts, bits, parts of slices, arrays, stores into elements. No program is named here. -/
import Derived.Laws.StructEq
import Derived.Test.YtjomjfjbpcafhaaDoorEvS2
namespace Go.Proofs.YtjomjfjbpcafhaaDoor
namespace Ev
open Go Go.RowKit
set_option linter.unusedVariables false
set_option linter.unusedSimpArgs false

/-! Shifts and bits. -/
def shrI (x : Int) (k : IntKind) (y : Int) : Int := x.fdiv (2 ^ (min y.toNat k.bits))
def shlI (x : Int) (k : IntKind) (y : Int) : Int := k.wrap (x * 2 ^ (min y.toNat k.bits))
def shr1 (k : IntKind) (x y : Int) : Option Int := if 0 ≤ y then some (shrI x k y) else none
def shl1 (k : IntKind) (x y : Int) : Option Int := if 0 ≤ y then some (shlI x k y) else none
theorem p_shr {P : Program} {t : TypeId} {x y : Operand} {k k' : IntKind} {a b z : Int} (h : shr1 k a b = some z) : pureOf P (do eqGuard .shr t x y (.int k a) (.int k' b); binOp .shr t (.int k a) (.int k' b)) = some (.int k z) := by
  unfold shr1 at h
  split at h
  · rename_i hc
    rw [← Option.some.inj h]
    have : (do eqGuard .shr t x y (.int k a) (.int k' b); binOp .shr t (.int k a) (.int k' b)) = (pure (.int k (shrI a k b)) : Sem Value) := by
      show Op.shift .shr k a k' b = _
      unfold Op.shift
      rw [if_neg (by omega)]
      rfl
    rw [this]; rfl
  · simp at h
theorem p_shl {P : Program} {t : TypeId} {x y : Operand} {k k' : IntKind} {a b z : Int} (h : shl1 k a b = some z) : pureOf P (do eqGuard .shl t x y (.int k a) (.int k' b); binOp .shl t (.int k a) (.int k' b)) = some (.int k z) := by
  unfold shl1 at h
  split at h
  · rename_i hc
    rw [← Option.some.inj h]
    have : (do eqGuard .shl t x y (.int k a) (.int k' b); binOp .shl t (.int k a) (.int k' b)) = (pure (.int k (shlI a k b)) : Sem Value) := by
      show Op.shift .shl k a k' b = _
      unfold Op.shift
      rw [if_neg (by omega)]
      rfl
    rw [this]; rfl
  · simp at h
def andI (k : IntKind) (x y : Int) : Int := k.wrap (BitVec.ofInt k.bits x &&& BitVec.ofInt k.bits y).toNat
def orI (k : IntKind) (x y : Int) : Int := k.wrap (BitVec.ofInt k.bits x ||| BitVec.ofInt k.bits y).toNat
def xorI (k : IntKind) (x y : Int) : Int := k.wrap (BitVec.ofInt k.bits x ^^^ BitVec.ofInt k.bits y).toNat
def andNotI (k : IntKind) (x y : Int) : Int := k.wrap (BitVec.ofInt k.bits x &&& ~~~ BitVec.ofInt k.bits y).toNat
section
variable (P : Program) (t : TypeId) (x y : Operand) (k : IntKind) (a b : Int)
theorem p_and : pureOf P (do eqGuard .and t x y (.int k a) (.int k b); binOp .and t (.int k a) (.int k b)) = some (.int k (andI k a b)) := by cases k <;> rfl
theorem p_or : pureOf P (do eqGuard .or t x y (.int k a) (.int k b); binOp .or t (.int k a) (.int k b)) = some (.int k (orI k a b)) := by cases k <;> rfl
theorem p_xor : pureOf P (do eqGuard .xor t x y (.int k a) (.int k b); binOp .xor t (.int k a) (.int k b)) = some (.int k (xorI k a b)) := by cases k <;> rfl
theorem p_andNot : pureOf P (do eqGuard .andNot t x y (.int k a) (.int k b); binOp .andNot t (.int k a) (.int k b)) = some (.int k (andNotI k a b)) := by cases k <;> rfl
end
section
variable {E : Env} {y : Nat → YldP} {n nt : Nat} {f : Nat → D} {L : BL}
/-- A shift: the kinds of both sides may differ. -/
theorem q_shift {op : BinOp} {ty sh : TypeId} {x y : Operand} {fa fb : Bool} {ka kb : IntKind} {a b : Int} {v : Value} (hx : ov nt f x = some (.one (.p fa (.v (.int ka a))))) (hy : ov nt f y = some (.one (.p fb (.v (.int kb b)))))
    (hp : pureOf E.P (do eqGuard op ty x y (.int ka a) (.int kb b); binOp op ty (.int ka a) (.int kb b)) = some v) (h1 : one1 v = true) : PS E n nt f L (.binOp op ty x y sh) (mk v) := q_bin hx hy hp h1

/-! Parts of slices. -/
def cutS {α : Type} (w : Nat) (s : Sl α) (lo hi : Int) : Option (Sl α) := if 0 ≤ lo ∧ lo ≤ hi ∧ hi ≤ (s.l.length : Int) ∧ (s.sz = w ∨ lo = 0) then some ⟨s.nn, s.sz, (s.l.drop lo.toNat).take (hi.toNat - lo.toNat)⟩ else none
theorem cutS_some {α : Type} {w : Nat} {s s' : Sl α} {lo hi : Int} (h : cutS w s lo hi = some s') : (0 ≤ lo ∧ lo ≤ hi ∧ hi ≤ (s.l.length : Int) ∧ (s.sz = w ∨ lo = 0)) ∧ s' = ⟨s.nn, s.sz, (s.l.drop lo.toNat).take (hi.toNat - lo.toNat)⟩ := by
  unfold cutS at h
  split at h
  · rename_i hc; exact ⟨hc, (Option.some.inj h).symm⟩
  · simp at h
theorem no_none {ρ : Operand → Option D} (d : Nat) : natOr ρ none d = some ((d : Int)).toNat := by simp [natOr]
theorem no_zero {ρ : Operand → Option D} : natOr ρ none 0 = some ((0 : Int)).toNat := rfl
theorem no_some {y : Operand} {fr : Bool} {k : IntKind} {i : Int} (hx : ov nt f y = some (.one (.p fr (.v (.int k i))))) (h0 : 0 ≤ i) (d : Nat) : natOr (ov nt f) (some y) d = some i.toNat := by
  show (ov nt f y).bind asNat = _
  rw [hx]
  exact asNat_nonneg fr k _ h0
theorem q_sliceS {α : Type} {r : α → List T} {ty e : TypeId} {t te : TI} {x : Operand} {lo hi : Option Operand} {fr nn : Bool} {sz : Nat} {l : List α} {s' : Sl α} {i j : Int} (hc : cutS te.size ⟨nn, sz, l⟩ i j = some s') (hx : ov nt f x = some (.one (.p fr (.s nn sz (l.map r))))) (ht : E.ti ty = some t) (he : elemOf t = some e) (hte : E.ti e = some te) (hlo : natOr (ov nt f) lo 0 = some i.toNat) (hhi : natOr (ov nt f) hi l.length = some j.toNat) : PS E n nt f L (.slice ty x lo hi none) (.one (.p fr (Sl.t r s'))) := fun h nid hb => by
  obtain ⟨⟨c1, c2, c3, c4⟩, rfl⟩ := cutS_some hc
  simp only at c1 c2 c3 c4
  show ((E.ti ty).bind fun t => (elemOf t).bind fun q => (E.ti q).bind fun te => (opndG (slots (tab nt f)) x).bind fun d => (lenD d).bind fun n => (natOr (opndG (slots (tab nt f))) hi n).bind fun h' => (natOr (opndG (slots (tab nt f))) lo 0).bind fun l' => if l' ≤ h' ∧ h' ≤ n then _ else _) = _
  rw [ht, ov_fun]
  simp only [Option.bind_some, he, hte, hx, lenD_s, hhi, hlo]
  rw [if_pos (by omega)]
  show (if sz = te.size ∨ i.toNat = 0 then _ else _) = _
  rw [if_pos (by rcases c4 with h | h; exact .inl h; exact .inr (by omega))]
  unfold Sl.t
  rw [List.map_take, List.map_drop]

/-! Arrays. -/
theorem q_ixA {ty e : TypeId} {t te : TI} {m z : Nat} {x ix : Operand} {fb : Bool} {kb : IntKind} {k i j a : Nat} (ht : E.ti ty = some t) (hd : t.desc = .array m e) (hte : E.ti e = some te) (hz : te.size = z) (hx : ov nt f x = some (.one (.ptr k i j))) (hi : ov nt f ix = some (.one (.p fb (.v (.int kb (a : Int)))))) (ha : Nat.blt a m = true) : PS E n nt f L (.indexAddr ty x ix) (.one (.ptr k i (j + a * z))) := fun h nid hb => by
  rw [s_index, ov_eq, hx, ov_eq, hi]
  refine Eq.trans (b := kIx2 E.ti ty h a (.one (.ptr k i j))) rfl ?_
  show ((E.ti ty).bind fun t => match t.desc with
    | .array n e => (E.ti e).bind fun te => if a < n then some (⟨.one (.ptr k i (j + a * te.size)), []⟩ : Eff) else none
    | _ => none) = _
  rw [ht]
  simp only [Option.bind_some, hd, hte]
  rw [if_pos (blt_lt ha), hz]

/-! Stores into elements. -/
theorem own_set {α : Type} {k i : Nat} {l : List α} {x : α} : D.one (C.own k 0 l.length) = D.one (C.own k 0 (l.set i x).length) := by rw [List.length_set]
variable {ops : Array Oper} {r : List Oper} {K : St → Prop}
theorem ol_re (i : Nat) {v : D} (h : f i = v) (h2 : OpsL E y n nt ops r K (up f i v) L) : OpsL E y n nt ops r K f L := by rw [up_self h] at h2; exact h2
theorem tn_re {q w b : Nat} {O : List (List Nat)} {N : List (Bool × List Nat)} {R : List (List Nat)} (i : Nat) {v : D} (h : f i = v) (h2 : TnL E n nt ops r q w O N R b K (up f i v) L) : TnL E n nt ops r q w O N R b K f L := by rw [up_self h] at h2; exact h2

/-! The lesser, and the greater. -/
def minI (a b : Int) : Int := if b < a then b else a
def maxI (a b : Int) : Int := if b > a then b else a
theorem q_minmax {c : Call} {x y : Operand} {ty : TypeId} {t : TI} {fa fb : Bool} {ka kb : IntKind} {a b : Int} (hx : ov nt f x = some (.one (.p fa (.v (.int ka a))))) (hy : ov nt f y = some (.one (.p fb (.v (.int kb b))))) (ht : E.ti ty = some t) (hargs : c.args.toList = [x, y]) (hty : c.argTypes[0]? = some ty) : (c.callee = .builtin .min → PS E n nt f L (.call c) (iD ka (minI a b))) ∧ (c.callee = .builtin .max → PS E n nt f L (.call c) (iD ka (maxI a b))) := by
  constructor <;> intro hc h nid hb
  all_goals
    have h1 : isCall (.call c) = none := by unfold isCall; simp only [hc]
    rw [s_call, h1]
    unfold sem opOf
    simp only [hc, hty, ht, hargs, ov_fun, Option.bind_eq_bind, Option.bind_some, List.mapM_cons, List.mapM_nil, hx, hy, Option.pure_def, plain, plainC]
    rfl

/-! Slices that are appended to nothing. -/
theorem el_datE {α : Type} {r : α → List T} {fr nn : Bool} {sz : Nat} {l m : List α} (hr : ∀ x, (r x).map (pC fr) = rowC r x) (hm : m = [] ++ l) : Elems L (.one (.p fr (.s nn sz (l.map r)))) (m.map (rowC r)) := by
  rw [hm, List.nil_append]; exact el_dat hr
theorem el_ownE {α : Type} {r : α → List C} {k sz : Nat} {l m : List α} (p : Nat) (hp : L[p]? = some [(k, sz, l.map r)]) (hm : m = [] ++ l) : Elems L (.one (.own k 0 l.length)) (m.map r) := by
  rw [hm, List.nil_append]; exact el_ownM p hp
theorem app_eq {α : Type} {l m x : List α} (h : app l m = some x) : x = l ++ m := (app_some h).2
theorem app_len {α : Type} {l m x : List α} (h : app l m = some x) : x.length ≤ bound := by
  obtain ⟨h1, rfl⟩ := app_some h
  simpa using h1
theorem q_app0V {α : Type} {ro : α → List C} {c : Call} {a x : Operand} {ty ty1 z e1 : TypeId} {t1 : TI} {fr : Bool} {bz : Nat} {d : D} {y : α} {ys : List α} (ha : ov nt f a = some (.one (.p fr (.s false bz [])))) (hx : ov nt f x = some d) (hxs : Elems L d ((y :: ys).map ro)) (hb : (y :: ys).length ≤ bound) (hr : ∀ y, (ro y).length = z) (hz : elemAt E.ti ty = some z) (ht1 : E.ti ty1 = some t1) (he1 : elemOf t1 = some e1)
    (hc : c.callee = .builtin .append) (hargs : c.args.toList = [a, x]) (hty : c.argTypes[0]? = some ty) (hty1 : c.argTypes[1]? = some ty1) : PN E n nt f L (.call c) (fun k => .one (.own k 0 (y :: ys).length)) z ((y :: ys).map ro) := by
  have := q_app0 (n := n) ha hx hxs ⟨_, _, rfl⟩ (by simpa using hb) (by simp [hr]) hz ht1 he1 hc hargs hty hty1
  rw [List.length_map] at this
  exact this
end

/-! What is nil until it has an element: whole, not split. -/
theorem atM_some {α : Type} {w : Nat} {l : List α} {i : Int} {x : α} (h : atS w (mo w l) i = some x) : 0 ≤ i ∧ l[i.toNat]? = some x := by
  obtain ⟨h1, _, h2⟩ := atS_some h
  rw [mo_l] at h2
  exact ⟨h1, h2⟩
theorem atS_nil {α : Type} {w : Nat} {i : Int} {x : α} (h : atS w (⟨false, 0, []⟩ : Sl α) i = some x) : False := by
  obtain ⟨_, _, h2⟩ := atS_some h
  simp at h2
def resM {α : Type} (w : Nat) (r : α → List T) (l : List α) : Kind × List TD :=
  match l with
  | [] => (.fresh, [.one (.s false 0 [])])
  | y :: t => (.own, [.one (.s true w ((y :: t).map r))])
theorem fn_M {E : Env} {n : Nat} {k : FuncId} {fi : FI} {vs : List TD} {rs : Kind × List TD} (ha : E.ax k = none) (hf : E.fn k = some fi) (hl : Nat.ble vs.length fi.nt = true) (h : WpL E nY n fi.nt fi.body (endQ E fi.results rs) (f0 vs) []) : RunsP E (n + 1) k vs rs := runs_tab ha hf (Nat.le_of_ble_eq_true hl) (h [] ⟨List.nodup_nil, fun x hx => by simp at hx⟩)
section
variable {α : Type} {rw_ : α → List T} {w k : Nat} {l : List α}
theorem segM {L : BL} {p : Nat} {r : α → List T} (hp : L[p]? = some (moL r w l k)) {i : Nat} {y : α} (hy : l[i]? = some y) : L[p]? = some [(k, w, l.map (rowC r))] := by
  cases l with
  | nil => simp at hy
  | cons a l => exact hp
theorem setM {r : α → List T} {i : Nat} {y y' : α} (hy : l[i]? = some y) : [(k, w, (l.set i y').map (rowC r))] = moL r w (l.set i y') k := by
  cases l with
  | nil => simp at hy
  | cons a l => cases i <;> rfl
theorem moC_set {i : Nat} {x : α} : moC l k = moC (l.set i x) k := by
  cases l with
  | nil => rfl
  | cons a l =>
    have h : ∀ m : List α, m ≠ [] → moC m k = .own k 0 m.length := fun m hm => by cases m with | nil => exact absurd rfl hm | cons b m => rfl
    rw [h _ (by simp), h _ (by simp), List.length_set]
theorem lenD_M : lenD (.one (moC l k)) = some l.length := by cases l <;> rfl
end
section
variable {E : Env} {y : Nat → YldP} {n nt : Nat} {f : Nat → D} {L : BL} {ops : Array Oper} {o : Oper} {rr : List Oper} {K : St → Prop} {d : Nat}
theorem q_lenM {α : Type} {l : List α} {c : Call} {a : Operand} {ty e : TypeId} {t : TI} {k : Nat} (hx : ov nt f a = some (.one (moC l k))) (ht : E.ti ty = some t) (hd : t.desc = .slice e) (hc : c.callee = .builtin .len) (ha : c.args.toList = [a]) (hty : c.argTypes[0]? = some ty) : PS E n nt f L (.call c) (iD .i64 l.length) := q_lenG hc ha hty ht hd hx lenD_M
theorem q_ixM {α : Type} {r : α → List T} {ty : TypeId} {x ix : Operand} {fb : Bool} {k w : Nat} {l : List α} {kb : IntKind} {i : Int} {y : α} (p : Nat) (hx : ov nt f x = some (.one (moC l k))) (hi : ov nt f ix = some (.one (.p fb (.v (.int kb i))))) (h0 : 0 ≤ i) (hy : l[i.toNat]? = some y) (hp : L[p]? = some (moL r w l k)) (hz : elemAt E.ti ty = some w) : PS E n nt f L (.indexAddr ty x ix) (.one (.ptr k i.toNat 0)) := by
  cases l with
  | nil => simp at hy
  | cons a l => exact q_ixO (r := rowC r) p hx hi h0 hy hp hz
/-- The keys of a piece that may be empty. -/
def moK {α : Type} (l : List α) (k : Nat) : List Nat :=
  match l with
  | [] => []
  | _ :: _ => [k]
theorem huM {α : Type} {l : List α} {k j : Nat} {y : α} {u : List Nat} (hy : l[j]? = some y) (h : u = moK l k ++ []) : u = [k] := by
  cases l with
  | nil => simp at hy
  | cons a l => rw [h]; rfl
theorem HB.dropNil {h : Heap} {L : BL} {p : Nat} (hp : L[p]? = some []) (hb : HB h L) : HB h (L.eraseIdx p) := by unfold HB; rw [erase_nil hp]; exact hb
theorem ol_dropNil {p : Nat} (hp : L[p]? = some []) (h : OpsL E y n nt ops rr K f (L.eraseIdx p)) : OpsL E y n nt ops rr K f L := fun H hb => h H (hb.dropNil hp)
theorem ol_addM {α : Type} (r : α → List T) (w : Nat) (h : OpsL E y n nt ops rr K f (moL r w ([] : List α) 0 :: L)) : OpsL E y n nt ops rr K f L := fun H hb => h H hb
theorem tn_addM {α : Type} {i q b : Nat} {O : List (List Nat)} {N : List (Bool × List Nat)} {R : List (List Nat)} (r : α → List T) (w : Nat) (h : TnL E n nt ops rr i q O N R b K f (moL r w ([] : List α) 0 :: L)) : TnL E n nt ops rr i q O N R b K f L := fun H hb hl => h H hb hl
theorem E_addM {α : Type} {Q : Ex → St → Prop} {e : Ex} (r : α → List T) (w : Nat) (h : EndL nt Q e f (moL r w ([] : List α) 0 :: L)) : EndL nt Q e f L := fun H hb => h H hb
theorem L_addM {α : Type} {Q : Ex → St → Prop} {c : Code} (r : α → List T) (w : Nat) (h : WpL E y n nt c Q f (moL r w ([] : List α) 0 :: L)) : WpL E y n nt c Q f L := fun H hb => h H hb
theorem set_same {α : Type} : ∀ {l : List α} {q : Nat} {s : α}, l[q]? = some s → l.set q s = l
  | [], q, s, h => by simp at h
  | a :: l, 0, s, h => by simp at h; subst h; rfl
  | a :: l, q + 1, s, h => by rw [List.set_cons_succ, set_same (by simpa using h)]
theorem ol_reS (q : Nat) {s s' : List B1} (hq : L[q]? = some s) (he : s = s') (h : OpsL E y n nt ops rr K f (L.set q s')) : OpsL E y n nt ops rr K f L := by subst he; rw [set_same hq] at h; exact h
theorem tn_reS {i wd b : Nat} {O : List (List Nat)} {N : List (Bool × List Nat)} {R : List (List Nat)} (q : Nat) {s s' : List B1} (hq : L[q]? = some s) (he : s = s') (h : TnL E n nt ops rr i wd O N R b K f (L.set q s')) : TnL E n nt ops rr i wd O N R b K f L := by subst he; rw [set_same hq] at h; exact h
theorem own_cpC {α : Type} {k : Nat} {l m r : List α} (h : cpL l m = some r) : C.own k 0 l.length = C.own k 0 r.length := by rw [cpL_len h]
theorem own_setC {α : Type} {k i : Nat} {l : List α} {x : α} : C.own k 0 l.length = C.own k 0 (l.set i x).length := by rw [List.length_set]
theorem moK_ne {α : Type} {l : List α} {k k2 : Nat} (h : k2 ∉ moK l k) : ∀ x ∈ moK l k, ¬ x = k2 := fun x hx e => h (e ▸ hx)
/-- append to what may be nil. -/
theorem ol_appM {α : Type} {r : α → List T} {c : Call} {a x : Operand} {ty ty1 w e1 : TypeId} {t1 : TI} {k : Nat} {l ys lm : List α} {dx : D} (p : Nat) (hw : wantF ops o nt f = some true) (hd : o.dst = some d) (hn : Nat.blt d nt = true) (ho : o.op = .call c) (ha : ov nt f a = some (.one (moC l k))) (hx : ov nt f x = some dx) (hxs : Elems L dx (ys.map (rowC r))) (hp : L[p]? = some (moL r w l k)) (hlm : app l ys = some lm) (hr : ∀ y, (rowC r y).length = w) (hz : elemAt E.ti ty = some w) (ht1 : E.ti ty1 = some t1) (he1 : elemOf t1 = some e1)
    (hc : c.callee = .builtin .append) (hargs : c.args.toList = [a, x]) (hty : c.argTypes[0]? = some ty) (hty1 : c.argTypes[1]? = some ty1) (h : ∀ k', OpsL E y n nt ops rr K (up f d (.one (moC lm k'))) (moL r w lm k' :: L.eraseIdx p)) (hz0 : Nat.beq w 0 = false := by rfl) : OpsL E y n nt ops (o :: rr) K f L := by
  cases l with
  | nil =>
    have hlm2 := app_eq hlm
    rw [List.nil_append] at hlm2
    subst hlm2
    have hb := app_len hlm
    cases lm with
    | nil => exact ol_put hw hd hn (by rw [ho]; exact q_appN ha hx hxs hz ht1 he1 hc hargs hty hty1) (ol_dropNil hp (h 0))
    | cons y ys =>
      refine ol_new hw hd hn (by rw [ho]; exact q_app0V (ro := rowC r) ha hx hxs hb hr hz ht1 he1 hc hargs hty hty1) fun k' => ?_
      exact ol_dropNil (p := p + 1) hp (h k')
  | cons y l =>
    obtain ⟨_, rfl⟩ := app_some hlm
    exact ol_app hw hd hn (by rw [ho]; exact q_app (r := rowC r) p ha hx hxs rfl hp hlm hr hz ht1 he1 hc hargs hty hty1 hz0) rfl h
theorem tn_dropNil {i q b p : Nat} {O : List (List Nat)} {N : List (Bool × List Nat)} {R : List (List Nat)} (hp : L[p]? = some []) (h : TnL E n nt ops rr i q O N R b K f (L.eraseIdx p)) : TnL E n nt ops rr i q O N R b K f L := fun H hb hl => h H (hb.dropNil hp) hl
/-- The same in a drawn region: the turns are told as what may be empty, too. -/
theorem tn_appM {α : Type} {r : α → List T} {c : Call} {a x : Operand} {ty ty1 w e1 : TypeId} {t1 : TI} {k i wd b : Nat} {O : List (List Nat)} {N : List (Bool × List Nat)} {R : List (List Nat)} {A : BL} {l ys lm : List α} {y0 : α} {dx : D} (p q : Nat) (hw : wantF ops o nt f = some true) (hd : o.dst = some d) (hn : Nat.blt d nt = true) (ho : o.op = .call c) (is : List Nat) (hn2 : is.Nodup) (hA : is.filterMap (fun i => L[i]?) = A) (hm : ∀ x ∈ A.flatten, x.1 ∉ (R.getD i []).flatMap (turnsOf b O N)) (hu : turnsOf b O N i = moK l k ++ [b + i]) (hi : Nat.blt i wd = true) (hk : ∀ x ∈ L.flatten, x.1 ≠ b + i)
    (ha : ov nt f a = some (.one (moC l k))) (hx : ov nt f x = some dx) (hxs : Elems A dx ((y0 :: ys).map (rowC r))) (hp : A[p]? = some (moL r w l k)) (hq : L[q]? = some (moL r w l k)) (hlm : app l (y0 :: ys) = some lm) (hr : ∀ y, (rowC r y).length = w) (hz : elemAt E.ti ty = some w) (ht1 : E.ti ty1 = some t1) (he1 : elemOf t1 = some e1)
    (hc : c.callee = .builtin .append) (hargs : c.args.toList = [a, x]) (hty : c.argTypes[0]? = some ty) (hty1 : c.argTypes[1]? = some ty1) (h : TnL E n nt ops rr (i + 1) wd O N R b K (up f d (.one (moC lm (b + i)))) (moL r w lm (b + i) :: L.eraseIdx q)) (hz0 : Nat.beq w 0 = false := by rfl) : TnL E n nt ops (o :: rr) i wd O N R b K f L := by
  cases l with
  | nil =>
    have hlm2 := app_eq hlm
    rw [List.nil_append] at hlm2
    subst hlm2
    have hb := app_len hlm
    refine tn_new hw hd hn is hn2 hA hm hu hi hk (by rw [ho]; exact q_app0V (ro := rowC r) ha hx hxs hb hr hz ht1 he1 hc hargs hty hty1) ?_
    exact tn_dropNil (p := q + 1) hq h
  | cons y l =>
    obtain ⟨_, rfl⟩ := app_some hlm
    exact tn_app hw hd hn is hn2 hA hm hu hi hk (by rw [ho]; exact q_app (r := rowC r) p ha hx hxs rfl hp hlm hr hz ht1 he1 hc hargs hty hty1 hz0) hq rfl h
theorem hkM {α : Type} {r : α → List T} {w k z : Nat} {l : List α} {A : BL} (h1 : l = [] ∨ k ≠ z) (h2 : ∀ x ∈ A.flatten, x.1 ≠ z) : ∀ x ∈ (moL r w l k :: A : BL).flatten, x.1 ≠ z := fun x hx => by
  rw [List.flatten_cons, List.mem_append] at hx
  rcases hx with hx | hx
  · cases l with
    | nil => simp [moL] at hx
    | cons a l => simp only [moL, List.mem_singleton] at hx; subst hx; exact h1.resolve_left (by simp)
  · exact h2 x hx
theorem hmM {α : Type} {r : α → List T} {w k : Nat} {l : List α} {A : BL} {M : List Nat} (h1 : l = [] ∨ k ∉ M) (h2 : ∀ x ∈ A.flatten, x.1 ∉ M) : ∀ x ∈ (moL r w l k :: A : BL).flatten, x.1 ∉ M := fun x hx => by
  rw [List.flatten_cons, List.mem_append] at hx
  rcases hx with hx | hx
  · cases l with
    | nil => simp [moL] at hx
    | cons a l => simp only [moL, List.mem_singleton] at hx; subst hx; exact h1.resolve_left (by simp)
  · exact h2 x hx
theorem key_ltM {α : Type} {r : α → List T} {w k b : Nat} {l : List α} (h : ∀ x ∈ L.flatten, x.1 < b) (p : Nat) (hp : L[p]? = some (moL r w l k)) : l = [] ∨ k < b := by
  cases l with
  | nil => exact .inl rfl
  | cons a l => exact .inr (key_lt h p hp)
theorem key_neM {α : Type} {r : α → List T} {w k k2 : Nat} {l : List α} {x2 : Nat × List (List C)} (hn : (L.flatten.map (·.1)).Nodup) (p q : Nat) (hp : L[p]? = some (moL r w l k)) (hq : L[q]? = some [(k2, x2)]) (hpq : Nat.beq p q = false) : k2 ∉ moK l k := by
  cases l with
  | nil => simp [moK]
  | cons a l => have := key_ne hn p q hp hq hpq; simp [moK]; omega
theorem key_neMM {α β : Type} {r : α → List T} {r' : β → List T} {w w' k k2 : Nat} {l : List α} {l' : List β} (hn : (L.flatten.map (·.1)).Nodup) (p q : Nat) (hp : L[p]? = some (moL r w l k)) (hq : L[q]? = some (moL r' w' l' k2)) (hpq : Nat.beq p q = false) : l' = [] ∨ k2 ∉ moK l k := by
  cases l' with
  | nil => exact .inl rfl
  | cons a l' => exact .inr (key_neM hn p q hp hq hpq)
theorem moK_lt {α : Type} {l : List α} {k b : Nat} (h : l = [] ∨ k < b) : ∀ x ∈ moK l k, x < b := fun x hx => by
  cases l with
  | nil => simp [moK] at hx
  | cons a l => simp only [moK, List.mem_singleton] at hx; subst hx; exact h.resolve_left (by simp)
/-- Views and results. -/
theorem vc_M {α : Type} {r : α → List T} {w k : Nat} {l : List α} (p : Nat) (hp : L[p]? = some (moL r w l k)) (hr : ∀ x h m, (rowC r x).mapM (view h (m + 1)) = some ((r x).map fun t => (true, t))) : ∀ h, HB h L → ∀ m, view h (m + 2) (moC l k) = some (true, Sl.t r (mo w l)) := by
  cases l with
  | nil => exact fun h hb m => rfl
  | cons a l => exact vc_own (r := r) p hp hr
theorem E_endM {α : Type} {r : α → List T} {rv : List ResultVar} {k w : Nat} {l : List α} {e : Ex} (p : Nat) (he : e = .normal ∨ e = .ret) (hr : ResL E nt f L rv [.one (moC l k)]) (hp : L[p]? = some (moL r w l k)) (hr2 : ∀ x h m, (rowC r x).mapM (view h (m + 1)) = some ((r x).map fun t => (true, t))) (hpl : ∀ x, (rowC r x).all plainB = true) : EndL nt (endQ E rv (resM w r l)) e f L := by
  cases l with
  | nil => exact E_endF he hr (vw_cons (vd_one vc_s) vw_nil) (fun h hb => own_p) rfl rfl
  | cons a l => exact E_endO (r := r) p he hr hp hr2 hpl
theorem ol_callM {α : Type} {r : α → List T} {c : Call} {k : FuncId} {args : List D} {vs : List (Bool × TD)} {vs2 : List TD} {w : Nat} {l : List α} (hk : RunsP E n k vs2 (resM w r l)) (hw : wantF ops o nt f = some true) (hd : o.dst = some d) (hn : Nat.blt d nt = true) (ho : o.op = .call c) (hc : isCall (.call c) = some c) (hr : resolveD c (ov nt f) = some (k, args)) (hv : Vw L args vs) (h2 : vs.map (·.2) = vs2) (h : ∀ k', OpsL E y n nt ops rr K (up f d (.one (moC l k'))) (moL r w l k' :: L)) : OpsL E y n nt ops (o :: rr) K f L := by
  cases l with
  | nil => exact ol_put hw hd hn (by rw [ho]; exact q_callF hk hc hr hv h2 rfl) fun H hb => h 0 H hb
  | cons a l => exact ol_new hw hd hn (by rw [ho]; exact q_callO (r := r) hk hc hr hv h2) h
end
/-! Structs held against each other. -/
theorem pof_bind {α β : Type} (P : Program) (s : Sem α) (k : α → Sem β) : pureOf P (s >>= k) = (pureOf P s).bind fun a => pureOf P (k a) := by
  induction s with
  | pure a => rfl
  | program q ih => exact ih P
  | _ => rfl
section
variable {P : Program}
theorem pof_und {t : TypeId} {d : TypeDesc} (h : P.underlying t = some d) : pureOf P (underlying t) = some d := by
  have : pureOf P (underlying t) = match P.underlying t with | some d => some d | none => none := by
    show pureOf P (underlying t) = _
    cases hx : P.underlying t with
    | none => rw [hx] at h; simp at h
    | some d' =>
      unfold underlying
      simp [pof_bind, program, pureOf, hx]
      rfl
  rw [this, h]
theorem pof_struct (d : Nat) (t : TypeId) (xs ys : Array Value) {fs : Array Field} (ht : P.underlying t = some (.struct fs)) (hp : P.stoodInHeld t = false) :
    pureOf P (Op.equalIn (d + 1) t (.agg xs) (.agg ys)) = pureOf P (Op.eqFields d xs ys fs.toList) := by
  have e1 : pureOf P program = some P := rfl
  simp only [Op.equalIn, pof_bind, pof_und ht, Option.bind_some, e1, hp, Bool.false_eq_true, if_false]
  rw [← Array.forIn_toList]
  generalize fs.toList = fs
  clear ht
  induction fs with
  | nil => rfl
  | cons f fs ih =>
    simp only [List.forIn_cons, Op.eqFields, pof_bind]
    by_cases hf : f.name ≠ "_"
    · simp only [if_pos hf, pof_bind]
      cases pureOf P (part f.type xs f.offset) with
      | none => rfl
      | some a =>
        cases pureOf P (part f.type ys f.offset) with
        | none => rfl
        | some b =>
          simp only [Option.bind_some]
          cases pureOf P (Op.equalIn d f.type a b) with
          | none => rfl
          | some q =>
            cases q
            · rfl
            · exact ih
    · simp only [if_neg hf, pof_bind]
      exact ih
theorem pof_field {d : Nat} {xs ys : Array Value} {f : Field} {fs : List Field} {k k' : IntKind} {a b : Int} (hf : (f.name == "_") = false) (h1 : pureOf P (part f.type xs f.offset) = some (.int k a)) (h2 : pureOf P (part f.type ys f.offset) = some (.int k b)) (h3 : P.underlying f.type = some (.int k')) :
    pureOf P (Op.eqFields (d + 1) xs ys (f :: fs)) = if (a == b) = true then pureOf P (Op.eqFields (d + 1) xs ys fs) else some false := by
  have hf' : f.name ≠ "_" := by simpa using hf
  have h4 : pureOf P (Op.equalIn (d + 1) f.type (.int k a) (.int k b)) = some (a == b) := by
    simp only [Op.equalIn, pof_bind, pof_und h3, Option.bind_some, if_true]
    rfl
  simp only [Op.eqFields, if_pos hf', pof_bind, h1, h2, h4, Option.bind_some]
  cases a == b <;> rfl
theorem pof_fieldS {d : Nat} {xs ys us vs : Array Value} {f : Field} {fs : List Field} {c : Bool} (hf : (f.name == "_") = false) (h1 : pureOf P (part f.type xs f.offset) = some (.agg us)) (h2 : pureOf P (part f.type ys f.offset) = some (.agg vs)) (h4 : pureOf P (Op.equalIn (d + 1) f.type (.agg us) (.agg vs)) = some c) :
    pureOf P (Op.eqFields (d + 1) xs ys (f :: fs)) = if c = true then pureOf P (Op.eqFields (d + 1) xs ys fs) else some false := by
  have hf' : f.name ≠ "_" := by simpa using hf
  simp only [Op.eqFields, if_pos hf', pof_bind, h1, h2, h4, Option.bind_some]
  cases c <;> rfl
theorem pof_nofield {d : Nat} {xs ys : Array Value} : pureOf P (Op.eqFields d xs ys []) = some true := rfl
theorem pof_eqlA {t : TypeId} {x y : Operand} {xs ys : Array Value} {b : Bool} (hg : P.eqGuardType P.depth t = false) (h : pureOf P (Op.equalIn 10000 t (.agg xs) (.agg ys)) = some b) : pureOf P (do eqGuard .eql t x y (.agg xs) (.agg ys); binOp .eql t (.agg xs) (.agg ys)) = some (.bool b) := by
  have e1 : pureOf P program = some P := rfl
  have h1 : pureOf P (eqGuard .eql t x y (.agg xs) (.agg ys)) = some () := by
    simp only [eqGuard, Bool.not_true, Bool.false_eq_true, if_false, pof_bind, e1, Option.bind_some, hg, Bool.not_false, if_true]
    rfl
  rw [pof_bind, h1]
  show pureOf P (binOp .eql t (.agg xs) (.agg ys)) = _
  have h2 : binOp .eql t (.agg xs) (.agg ys) = (do pure (.bool (← Op.equal t (.agg xs) (.agg ys)))) := rfl
  rw [h2, pof_bind]
  unfold Op.equal Op.maxDepth
  rw [h]; rfl
theorem pof_neqA {t : TypeId} {x y : Operand} {xs ys : Array Value} {b : Bool} (hg : P.eqGuardType P.depth t = false) (h : pureOf P (Op.equalIn 10000 t (.agg xs) (.agg ys)) = some b) : pureOf P (do eqGuard .neq t x y (.agg xs) (.agg ys); binOp .neq t (.agg xs) (.agg ys)) = some (.bool (!b)) := by
  have e1 : pureOf P program = some P := rfl
  have h1 : pureOf P (eqGuard .neq t x y (.agg xs) (.agg ys)) = some () := by
    simp only [eqGuard, Bool.not_true, Bool.false_eq_true, if_false, pof_bind, e1, Option.bind_some, hg, Bool.not_false, if_true]
    rfl
  rw [pof_bind, h1]
  show pureOf P (binOp .neq t (.agg xs) (.agg ys)) = _
  have h2 : binOp .neq t (.agg xs) (.agg ys) = (do pure (.bool (!(← Op.equal t (.agg xs) (.agg ys))))) := rfl
  rw [h2, pof_bind]
  unfold Op.equal Op.maxDepth
  rw [h]; rfl
theorem and_of {a b : Bool} {q : Option Bool} (h : q = some b) : (if a = true then q else some false) = some (a && b) := by cases a <;> simp [h]
end
end Ev
end Go.Proofs.YtjomjfjbpcafhaaDoor
