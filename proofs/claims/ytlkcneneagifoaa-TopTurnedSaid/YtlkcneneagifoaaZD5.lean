/- Texts of a claim, joined. -/
import Derived.Test.YtlkcneneagifoaaZD4
import Derived.Laws.StructEq
set_option linter.unusedVariables false
set_option linter.unusedSimpArgs false
section
namespace Go.Proofs.Ytlkcneneagifoaa
namespace Ev
open Go Go.RowKit
set_option linter.unusedVariables false
set_option linter.unusedSimpArgs false
def shrI (x : Int) (k : IntKind) (y : Int) : Int := x.fdiv (2 ^ (min y.toNat k.bits))
def shlI (x : Int) (k : IntKind) (y : Int) : Int := k.wrap (x * 2 ^ (min y.toNat k.bits))
def shr1 (k : IntKind) (x y : Int) : Option Int := if 0 ≤ y then some (shrI x k y) else none
def shl1 (k : IntKind) (x y : Int) : Option Int := if 0 ≤ y then some (shlI x k y) else none
theorem p_shr {P : Program} {t : TypeId} {x y : Operand} {k k' : IntKind} {a b z : Int} (h : shr1 k a b = some z) : pureOf P (do eqGuard .shr t x y (.int k a) (.int k' b); binOp .shr t (.int k a) (.int k' b)) = some (.int k z) := by
 unfold shr1 at h
 split at h
 ·rename_i hc
  rw [← Option.some.inj h]
  have : (do eqGuard .shr t x y (.int k a) (.int k' b); binOp .shr t (.int k a) (.int k' b)) = (pure (.int k (shrI a k b)) : Sem Value) := by
   show Op.shift .shr k a k' b = _
   unfold Op.shift
   rw [if_neg (by omega)]
   rfl
  rw [this]; rfl
 ·simp at h
theorem p_shl {P : Program} {t : TypeId} {x y : Operand} {k k' : IntKind} {a b z : Int} (h : shl1 k a b = some z) : pureOf P (do eqGuard .shl t x y (.int k a) (.int k' b); binOp .shl t (.int k a) (.int k' b)) = some (.int k z) := by
 unfold shl1 at h
 split at h
 ·rename_i hc
  rw [← Option.some.inj h]
  have : (do eqGuard .shl t x y (.int k a) (.int k' b); binOp .shl t (.int k a) (.int k' b)) = (pure (.int k (shlI a k b)) : Sem Value) := by
   show Op.shift .shl k a k' b = _
   unfold Op.shift
   rw [if_neg (by omega)]
   rfl
  rw [this]; rfl
 ·simp at h
def andI (k : IntKind) (x y : Int) : Int := k.wrap (BitVec.ofInt k.bits x &&& BitVec.ofInt k.bits y).toNat
def orI (k : IntKind) (x y : Int) : Int := k.wrap (BitVec.ofInt k.bits x ||| BitVec.ofInt k.bits y).toNat
def xorI (k : IntKind) (x y : Int) : Int := k.wrap (BitVec.ofInt k.bits x ^^^ BitVec.ofInt k.bits y).toNat
def andNotI (k : IntKind) (x y : Int) : Int := k.wrap (BitVec.ofInt k.bits x &&& ~~~ BitVec.ofInt k.bits y).toNat
section
variable (P : Program) (t : TypeId) (x y : Operand) (k : IntKind) (a b : Int)
theorem p_and : pureOf P (do eqGuard .and t x y (.int k a) (.int k b); binOp .and t (.int k a) (.int k b)) = some (.int k (andI k a b)) := by cases k <;> rfl
theorem p_or : pureOf P (do eqGuard .or t x y (.int k a) (.int k b); binOp .or t (.int k a) (.int k b)) = some (.int k (orI k a b)) := by cases k <;> rfl
theorem p_xor : pureOf P (do eqGuard .xor t x y (.int k a) (.int k b); binOp .xor t (.int k a) (.int k b)) = some (.int k (xorI k a b)) := by cases k <;> rfl
theorem p_andNot : pureOf P (do eqGuard .andNot t x y (.int k a) (.int k b); binOp .andNot t (.int k a) (.int k b)) = some (.int k (andNotI k a b)) := by cases k <;> rfl
end
section
variable {E : Env} {y : Nat → YldP} {n nt : Nat} {f : Nat → D} {L : BL}
def cutS {α : Type} (w : Nat) (s : Sl α) (lo hi : Int) : Option (Sl α) := if 0 ≤ lo ∧ lo ≤ hi ∧ hi ≤ (s.l.length : Int) ∧ (s.sz = w ∨ lo = 0) then some ⟨s.nn, s.sz, (s.l.drop lo.toNat).take (hi.toNat - lo.toNat)⟩ else none
theorem cutS_some {α : Type} {w : Nat} {s s' : Sl α} {lo hi : Int} (h : cutS w s lo hi = some s') : (0 ≤ lo ∧ lo ≤ hi ∧ hi ≤ (s.l.length : Int) ∧ (s.sz = w ∨ lo = 0)) ∧ s' = ⟨s.nn, s.sz, (s.l.drop lo.toNat).take (hi.toNat - lo.toNat)⟩ := by
 unfold cutS at h
 split at h
 ·rename_i hc; exact ⟨hc, (Option.some.inj h).symm⟩
 ·simp at h
theorem no_none {ρ : Operand → Option D} (d : Nat) : natOr ρ none d = some ((d : Int)).toNat := by simp [natOr]
theorem no_zero {ρ : Operand → Option D} : natOr ρ none 0 = some ((0 : Int)).toNat := rfl
theorem no_some {y : Operand} {fr : Bool} {k : IntKind} {i : Int} (hx : ov nt f y = some (.one (.p fr (.v (.int k i))))) (h0 : 0 ≤ i) (d : Nat) : natOr (ov nt f) (some y) d = some i.toNat := by
 show (ov nt f y).bind asNat = _
 rw [hx]
 exact asNat_nonneg fr k _ h0
theorem q_sliceM {α : Type} {r : α → List T} {ty e : TypeId} {t te : TI} {x : Operand} {lo hi mx : Option Operand} {fr nn : Bool} {sz m : Nat} {l : List α} {s' : Sl α} {i j : Int} (hc : cutS te.size ⟨nn, sz, l⟩ i j = some s') (hx : ov nt f x = some (.one (.p fr (.s nn sz (l.map r))))) (ht : E.ti ty = some t) (he : elemOf t = some e) (hte : E.ti e = some te) (hlo : natOr (ov nt f) lo 0 = some i.toNat) (hhi : natOr (ov nt f) hi l.length = some j.toNat) (hmx : natOr (ov nt f) mx l.length = some m) (hm : (mx.isSome && hi.isNone) = false) (hm1 : j.toNat ≤ m) (hm2 : m ≤ l.length) : PS E n nt f L (.slice ty x lo hi mx) (.one (.p fr (Sl.t r s'))) := fun h nid hb => by
 obtain ⟨⟨c1, c2, c3, c4⟩, rfl⟩ := cutS_some hc
 simp only at c1 c2 c3 c4
 show (if (mx.isSome && hi.isNone) = true then none else (E.ti ty).bind fun t => (elemOf t).bind fun q => (E.ti q).bind fun te => (opndG (slots (tab nt f)) x).bind fun d => (lenD d).bind fun n => (natOr (opndG (slots (tab nt f))) hi n).bind fun h' => (natOr (opndG (slots (tab nt f))) lo 0).bind fun l' => (natOr (opndG (slots (tab nt f))) mx n).bind fun m' => if l' ≤ h' ∧ h' ≤ m' ∧ m' ≤ n then _ else _) = _
 rw [if_neg (by rw [hm]; simp), ht, ov_fun]
 simp only [Option.bind_some, he, hte, hx, lenD_s, hhi, hlo, hmx]
 rw [if_pos (by omega)]
 show (if sz = te.size ∨ i.toNat = 0 then _ else _) = _
 rw [if_pos (by rcases c4 with h | h; exact .inl h; exact .inr (by omega))]
 unfold Sl.t
 rw [List.map_take, List.map_drop]
theorem q_sliceS {α : Type} {r : α → List T} {ty e : TypeId} {t te : TI} {x : Operand} {lo hi : Option Operand} {fr nn : Bool} {sz : Nat} {l : List α} {s' : Sl α} {i j : Int} (hc : cutS te.size ⟨nn, sz, l⟩ i j = some s') (hx : ov nt f x = some (.one (.p fr (.s nn sz (l.map r))))) (ht : E.ti ty = some t) (he : elemOf t = some e) (hte : E.ti e = some te) (hlo : natOr (ov nt f) lo 0 = some i.toNat) (hhi : natOr (ov nt f) hi l.length = some j.toNat) : PS E n nt f L (.slice ty x lo hi none) (.one (.p fr (Sl.t r s'))) :=
 q_sliceM hc hx ht he hte hlo hhi (m := l.length) rfl rfl (by have := (cutS_some hc).1; simp only at this; omega) (Nat.le_refl _)
theorem q_ixA {ty e : TypeId} {t te : TI} {m z : Nat} {x ix : Operand} {fb : Bool} {kb : IntKind} {k i j a : Nat} (ht : E.ti ty = some t) (hd : t.desc = .array m e) (hte : E.ti e = some te) (hz : te.size = z) (hx : ov nt f x = some (.one (.ptr k i j))) (hi : ov nt f ix = some (.one (.p fb (.v (.int kb (a : Int)))))) (ha : Nat.blt a m = true) : PS E n nt f L (.indexAddr ty x ix) (.one (.ptr k i (j + a * z))) := fun h nid hb => by
 rw [s_index, ov_eq, hx, ov_eq, hi]
 refine Eq.trans (b := kIx2 E.ti ty h a (.one (.ptr k i j))) rfl ?_
 show ((E.ti ty).bind fun t => match t.desc with
  | .array n e => (E.ti e).bind fun te => if a < n then some (⟨.one (.ptr k i (j + a * te.size)), []⟩ : Eff) else none
  | _ => none) = _
 rw [ht]
 simp only [Option.bind_some, hd, hte]
 rw [if_pos (blt_lt ha), hz]
variable {ops : Array Oper} {r : List Oper} {K : St → Prop}
def minI (a b : Int) : Int := if b < a then b else a
def maxI (a b : Int) : Int := if b > a then b else a
theorem q_minmax {c : Call} {x y : Operand} {ty : TypeId} {t : TI} {fa fb : Bool} {ka kb : IntKind} {a b : Int} (hx : ov nt f x = some (.one (.p fa (.v (.int ka a))))) (hy : ov nt f y = some (.one (.p fb (.v (.int kb b))))) (ht : E.ti ty = some t) (hargs : c.args.toList = [x, y]) (hty : c.argTypes[0]? = some ty) : (c.callee = .builtin .min → PS E n nt f L (.call c) (iD ka (minI a b))) ∧ (c.callee = .builtin .max → PS E n nt f L (.call c) (iD ka (maxI a b))) := by
 constructor <;> intro hc h nid hb
 all_goals
  have h1 : isCall (.call c) = none := by unfold isCall; simp only [hc]
  rw [s_call, h1]
  unfold sem opOf
  simp only [hc, hty, ht, hargs, ov_fun, Option.bind_eq_bind, Option.bind_some, List.mapM_cons, List.mapM_nil, hx, hy, Option.pure_def, plain, plainC]
  rfl
theorem app_eq {α : Type} {l m x : List α} (h : app l m = some x) : x = l ++ m := (app_some h).2
theorem app_len {α : Type} {l m x : List α} (h : app l m = some x) : x.length ≤ bound := by
 obtain ⟨h1, rfl⟩ := app_some h
 simpa using h1
theorem q_app0V {α : Type} {ro : α → List C} {c : Call} {a x : Operand} {ty ty1 z e1 : TypeId} {t1 : TI} {fr : Bool} {bz : Nat} {d : D} {y : α} {ys : List α} (ha : ov nt f a = some (.one (.p fr (.s false bz [])))) (hx : ov nt f x = some d) (hxs : Elems L d ((y :: ys).map ro)) (hb : (y :: ys).length ≤ bound) (hr : ∀ y, (ro y).length = z) (hz : elemAt E.ti ty = some z) (ht1 : E.ti ty1 = some t1) (he1 : elemOf t1 = some e1)
  (hc : c.callee = .builtin .append) (hargs : c.args.toList = [a, x]) (hty : c.argTypes[0]? = some ty) (hty1 : c.argTypes[1]? = some ty1) : PN E n nt f L (.call c) (fun k => .one (.own k 0 (y :: ys).length)) z ((y :: ys).map ro) := by
 have := q_app0 (n := n) ha hx hxs ⟨_, _, rfl⟩ (by simpa using hb) (by simp [hr]) hz ht1 he1 hc hargs hty hty1
 rw [List.length_map] at this
 exact this
end
def resM {α : Type} (w : Nat) (r : α → List T) (l : List α) : Kind × List TD :=
 match l with
 | [] => (.fresh, [.one (.s false 0 [])])
 | y :: t => (.own, [.one (.s true w ((y :: t).map r))])
section
variable {α : Type} {rw_ : α → List T} {w k : Nat} {l : List α}
theorem lenD_M : lenD (.one (moC l k)) = some l.length := by cases l <;> rfl
end
section
variable {E : Env} {y : Nat → YldP} {n nt : Nat} {f : Nat → D} {L : BL} {ops : Array Oper} {o : Oper} {rr : List Oper} {K : St → Prop} {d : Nat}
theorem HB.dropNil {h : Heap} {L : BL} {p : Nat} (hp : L[p]? = some []) (hb : HB h L) : HB h (L.eraseIdx p) := by unfold HB; rw [erase_nil hp]; exact hb
theorem ol_dropNil {p : Nat} (hp : L[p]? = some []) (h : OpsL E y n nt ops rr K f (L.eraseIdx p)) : OpsL E y n nt ops rr K f L := fun H hb => h H (hb.dropNil hp)
theorem L_addM {α : Type} {Q : Ex → St → Prop} {c : Code} (r : α → List T) (w : Nat) (h : WpL E y n nt c Q f (moL r w ([] : List α) 0 :: L)) : WpL E y n nt c Q f L := fun H hb => h H hb
theorem ol_appM {α : Type} {r : α → List T} {c : Call} {a x : Operand} {ty ty1 w e1 : TypeId} {t1 : TI} {k : Nat} {l ys lm : List α} {dx : D} (p : Nat) (hw : wantF ops o nt f = some true) (hd : o.dst = some d) (hn : Nat.blt d nt = true) (ho : o.op = .call c) (ha : ov nt f a = some (.one (moC l k))) (hx : ov nt f x = some dx) (hxs : Elems L dx (ys.map (rowC r))) (hp : L[p]? = some (moL r w l k)) (hlm : app l ys = some lm) (hr : ∀ y, (rowC r y).length = w) (hz : elemAt E.ti ty = some w) (ht1 : E.ti ty1 = some t1) (he1 : elemOf t1 = some e1)
  (hc : c.callee = .builtin .append) (hargs : c.args.toList = [a, x]) (hty : c.argTypes[0]? = some ty) (hty1 : c.argTypes[1]? = some ty1) (h : ∀ k', OpsL E y n nt ops rr K (up f d (.one (moC lm k'))) (moL r w lm k' :: L.eraseIdx p)) (hz0 : Nat.beq w 0 = false := by rfl) : OpsL E y n nt ops (o :: rr) K f L := by
 cases l with
 | nil =>
  have hlm2 := app_eq hlm
  rw [List.nil_append] at hlm2
  subst hlm2
  have hb := app_len hlm
  cases lm with
  | nil => exact ol_put hw hd hn (by rw [ho]; exact q_appN ha hx hxs hz ht1 he1 hc hargs hty hty1) (ol_dropNil hp (h 0))
  | cons y ys =>
   refine ol_new hw hd hn (by rw [ho]; exact q_app0V (ro := rowC r) ha hx hxs hb hr hz ht1 he1 hc hargs hty hty1) fun k' => ?_
   exact ol_dropNil (p := p + 1) hp (h k')
 | cons y l =>
  obtain ⟨_, rfl⟩ := app_some hlm
  exact ol_app hw hd hn (by rw [ho]; exact q_app (r := rowC r) p ha hx hxs rfl hp hlm hr hz ht1 he1 hc hargs hty hty1 hz0) rfl h
theorem vc_M {α : Type} {r : α → List T} {w k : Nat} {l : List α} (p : Nat) (hp : L[p]? = some (moL r w l k)) (hr : ∀ x h m, (rowC r x).mapM (view h (m + 1)) = some ((r x).map fun t => (true, t))) : ∀ h, HB h L → ∀ m, view h (m + 2) (moC l k) = some (true, Sl.t r (mo w l)) := by
 cases l with
 | nil => exact fun h hb m => rfl
 | cons a l => exact vc_own (r := r) p hp hr
end
theorem pof_bind {α β : Type} (P : Program) (s : Sem α) (k : α → Sem β) : pureOf P (s >>= k) = (pureOf P s).bind fun a => pureOf P (k a) := by
 induction s with
 | pure a => rfl
 | program q ih => exact ih P
 | _ => rfl
section
variable {P : Program}
theorem pof_und {t : TypeId} {d : TypeDesc} (h : P.underlying t = some d) : pureOf P (underlying t) = some d := by
 have : pureOf P (underlying t) = match P.underlying t with | some d => some d | none => none := by
  show pureOf P (underlying t) = _
  cases hx : P.underlying t with
  | none => rw [hx] at h; simp at h
  | some d' =>
   unfold underlying
   simp [pof_bind, program, pureOf, hx]
   rfl
 rw [this, h]
theorem pof_struct (d : Nat) (t : TypeId) (xs ys : Array Value) {fs : Array Field} (ht : P.underlying t = some (.struct fs)) (hp : P.stoodInHeld t = false) :
  pureOf P (Op.equalIn (d + 1) t (.agg xs) (.agg ys)) = pureOf P (Op.eqFields d xs ys fs.toList) := by
 have e1 : pureOf P program = some P := rfl
 simp only [Op.equalIn, pof_bind, pof_und ht, Option.bind_some, e1, hp, Bool.false_eq_true, if_false]
 rw [← Array.forIn_toList]
 generalize fs.toList = fs
 clear ht
 induction fs with
 | nil => rfl
 | cons f fs ih =>
  simp only [List.forIn_cons, Op.eqFields, pof_bind]
  by_cases hf : f.name ≠ "_"
  ·simp only [if_pos hf, pof_bind]
   cases pureOf P (part f.type xs f.offset) with
   | none => rfl
   | some a =>
    cases pureOf P (part f.type ys f.offset) with
    | none => rfl
    | some b =>
     simp only [Option.bind_some]
     cases pureOf P (Op.equalIn d f.type a b) with
     | none => rfl
     | some q =>
      cases q
      ·rfl
      ·exact ih
  ·simp only [if_neg hf, pof_bind]
   exact ih
theorem pof_field {d : Nat} {xs ys : Array Value} {f : Field} {fs : List Field} {k k' : IntKind} {a b : Int} (hf : (f.name == "_") = false) (h1 : pureOf P (part f.type xs f.offset) = some (.int k a)) (h2 : pureOf P (part f.type ys f.offset) = some (.int k b)) (h3 : P.underlying f.type = some (.int k')) :
  pureOf P (Op.eqFields (d + 1) xs ys (f :: fs)) = if (a == b) = true then pureOf P (Op.eqFields (d + 1) xs ys fs) else some false := by
 have hf' : f.name ≠ "_" := by simpa using hf
 have h4 : pureOf P (Op.equalIn (d + 1) f.type (.int k a) (.int k b)) = some (a == b) := by
  simp only [Op.equalIn, pof_bind, pof_und h3, Option.bind_some, if_true]
  rfl
 simp only [Op.eqFields, if_pos hf', pof_bind, h1, h2, h4, Option.bind_some]
 cases a == b <;> rfl
theorem pof_nofield {d : Nat} {xs ys : Array Value} : pureOf P (Op.eqFields d xs ys []) = some true := rfl
theorem pof_eqlA {t : TypeId} {x y : Operand} {xs ys : Array Value} {b : Bool} (hg : P.eqGuardType P.depth t = false) (h : pureOf P (Op.equalIn 10000 t (.agg xs) (.agg ys)) = some b) : pureOf P (do eqGuard .eql t x y (.agg xs) (.agg ys); binOp .eql t (.agg xs) (.agg ys)) = some (.bool b) := by
 have e1 : pureOf P program = some P := rfl
 have h1 : pureOf P (eqGuard .eql t x y (.agg xs) (.agg ys)) = some () := by
  simp only [eqGuard, Bool.not_true, Bool.false_eq_true, if_false, pof_bind, e1, Option.bind_some, hg, Bool.not_false, if_true]
  rfl
 rw [pof_bind, h1]
 show pureOf P (binOp .eql t (.agg xs) (.agg ys)) = _
 have h2 : binOp .eql t (.agg xs) (.agg ys) = (do pure (.bool (← Op.equal t (.agg xs) (.agg ys)))) := rfl
 rw [h2, pof_bind]
 unfold Op.equal Op.maxDepth
 rw [h]; rfl
theorem pof_neqA {t : TypeId} {x y : Operand} {xs ys : Array Value} {b : Bool} (hg : P.eqGuardType P.depth t = false) (h : pureOf P (Op.equalIn 10000 t (.agg xs) (.agg ys)) = some b) : pureOf P (do eqGuard .neq t x y (.agg xs) (.agg ys); binOp .neq t (.agg xs) (.agg ys)) = some (.bool (!b)) := by
 have e1 : pureOf P program = some P := rfl
 have h1 : pureOf P (eqGuard .neq t x y (.agg xs) (.agg ys)) = some () := by
  simp only [eqGuard, Bool.not_true, Bool.false_eq_true, if_false, pof_bind, e1, Option.bind_some, hg, Bool.not_false, if_true]
  rfl
 rw [pof_bind, h1]
 show pureOf P (binOp .neq t (.agg xs) (.agg ys)) = _
 have h2 : binOp .neq t (.agg xs) (.agg ys) = (do pure (.bool (!(← Op.equal t (.agg xs) (.agg ys))))) := rfl
 rw [h2, pof_bind]
 unfold Op.equal Op.maxDepth
 rw [h]; rfl
theorem and_of {a b : Bool} {q : Option Bool} (h : q = some b) : (if a = true then q else some false) = some (a && b) := by cases a <;> simp [h]
end
end Ev
end Go.Proofs.Ytlkcneneagifoaa
end
section
namespace Go.Proofs.Ytlkcneneagifoaa
namespace Ev
open Go Go.RowKit
set_option linter.unusedVariables false
set_option linter.unusedSimpArgs false
def inK (k : IntKind) (x : Int) : Prop := (Lit.int k x).wf = true
def SlW {α : Type} (w : Nat) (Q : α → Prop) (s : Sl α) : Prop := s.sz = w ∧ (s.nn = false → s.l = []) ∧ s.l.length ≤ maxLen ∧ ∀ x ∈ s.l, Q x
section
variable {P : Program} {t : TypeId} {ts : List T}
theorem typ_int {k : IntKind} (hu : P.underlying t = some (.int k)) (h : Typ P t ts) : ∃ x : Int, ts = [iT k x] ∧ inK k x := by
 cases h with
 | int _ k' n h hw => rw [hu] at h; cases h; exact ⟨n, rfl, hw⟩
 | bool _ b h => rw [hu] at h; simp at h
 | str _ s h => rw [hu] at h; simp at h
 | slice _ e nn l h => rw [hu] at h; simp at h
 | struct _ fs tss h => rw [hu] at h; simp at h
 | array _ n e tss h => rw [hu] at h; simp at h
theorem rows_open {α β : Type} {r : α → β} {Q : α → Prop} : ∀ {l : List β}, (∀ es ∈ l, ∃ x, es = r x ∧ Q x) → ∃ xs : List α, l = xs.map r ∧ ∀ x ∈ xs, Q x
 | [], _ => ⟨[], rfl, fun x hx => by simp at hx⟩
 | e :: l, h => by
  obtain ⟨x, rfl, hx⟩ := h e List.mem_cons_self
  obtain ⟨xs, rfl, hxs⟩ := rows_open fun e he => h e (List.mem_cons_of_mem _ he)
  exact ⟨x :: xs, rfl, fun y hy => by rcases List.mem_cons.1 hy with rfl | hy; exact hx; exact hxs y hy⟩
theorem typ_slice {α : Type} {r : α → List T} {Q : α → Prop} {e : TypeId} {w : Nat} (hu : P.underlying t = some (.slice e)) (hw : P.cellsOf e = w) (he : ∀ ts, Typ P e ts → ∃ x, ts = r x ∧ Q x) (h : Typ P t ts) : ∃ s : Sl α, ts = [Sl.t r s] ∧ SlW w Q s := by
 cases h with
 | slice _ e' nn l h hn hl h1 h2 =>
  rw [hu] at h; cases h
  obtain ⟨xs, rfl, hq⟩ := rows_open (r := r) (Q := Q) fun es hes => he es (h2 es hes)
  exact ⟨⟨nn, w, xs⟩, by rw [hw]; rfl, rfl, fun hh => by simpa using hn hh, by simpa using hl, hq⟩
 | int _ k' n h hw => rw [hu] at h; simp at h
 | bool _ b h => rw [hu] at h; simp at h
 | str _ s h => rw [hu] at h; simp at h
 | struct _ fs tss h => rw [hu] at h; simp at h
 | array _ n e tss h => rw [hu] at h; simp at h
theorem typ_struct {fs : Array Field} (hu : P.underlying t = some (.struct fs)) (h : Typ P t ts) : ∃ tss : List (List T), ts = tss.flatten ∧ tss.length = fs.toList.length ∧ ∀ (i : Nat) f ts', fs.toList[i]? = some f → tss[i]? = some ts' → Typ P f.type ts' := by
 cases h with
 | struct _ fs' tss h hl hf => rw [hu] at h; cases h; exact ⟨tss, rfl, by simpa using hl, fun i f ts' h1 h2 => hf i f ts' (by simpa using h1) h2⟩
 | int _ k' n h hw => rw [hu] at h; simp at h
 | bool _ b h => rw [hu] at h; simp at h
 | str _ s h => rw [hu] at h; simp at h
 | slice _ e nn l h => rw [hu] at h; simp at h
 | array _ n e tss h => rw [hu] at h; simp at h
theorem typd_agg {ts : List TypeId} {tds : List TD} {d : TypeDesc} (hu : P.underlying t = some d) (ha : isAggD d = true) (h : TypDs P (t :: ts) tds) : ∃ x r, tds = .agg x :: r ∧ Typ P t x ∧ TypDs P ts r := by
 cases h with
 | cons t ts td ds h hr =>
  cases h with
  | agg x h _ => exact ⟨x, ds, rfl, h, hr⟩
  | one xs h h2 => obtain ⟨d', h3, h4⟩ := h2; rw [hu] at h3; cases h3; rw [ha] at h4; simp at h4
theorem typd_nil {tds : List TD} (h : TypDs P [] tds) : tds = [] := by cases h; rfl
end
theorem law_of {E : Env} {n : Nat} {k : FuncId} {tds : List TD} (h : RunsP E n k tds (.fresh, [.one (bT true)])) : ∃ m n kind, (callers E m n).1 k tds = some (kind, [.one (.v (.bool true))]) := by
 obtain ⟨M, hM⟩ := h
 exact ⟨M, n, .fresh, hM M (Nat.le_refl _)⟩
theorem loop_up {A R : Type} {b : A → Option (A ⊕ R)} (n : Nat) (I : Nat → A → Prop) (Q : R → Prop) (hs : ∀ j a, j < n → I j a → (∃ a', b a = some (.inl a') ∧ I (j + 1) a') ∨ ∃ r, b a = some (.inr r) ∧ Q r) (he : ∀ a, I n a → ∃ r, b a = some (.inr r) ∧ Q r) (j : Nat) (hj : j ≤ n) (a : A) (ha : I j a) : ∃ r, loopO b a = some r ∧ Q r := by
 obtain ⟨k, hk⟩ : ∃ k, n = j + k := ⟨n - j, by omega⟩
 induction k generalizing j a with
 | zero =>
  have : j = n := by omega
  subst this
  obtain ⟨r, h1, h2⟩ := he a ha
  exact ⟨r, loopO_done h1, h2⟩
 | succ k ih =>
  rcases hs j a (by omega) ha with ⟨a', h1, h2⟩ | ⟨r, h1, h2⟩
  ·obtain ⟨r, h3, h4⟩ := ih (j + 1) (by omega) a' h2 (by omega)
   exact ⟨r, (loopO_step h1).trans h3, h4⟩
  ·exact ⟨r, loopO_done h1, h2⟩
theorem at_get {α : Type} {w : Nat} {s : Sl α} (hs : s.l = [] ∨ s.sz = w) {j : Nat} (hj : j < s.l.length) : atS w s (j : Int) = some s.l[j] := by
 have hw : s.sz = w := hs.resolve_left (by intro h; rw [h] at hj; simp at hj)
 unfold atS
 rw [if_pos ⟨by omega, hw⟩]
 simp
theorem atL_get {α : Type} {l : List α} {j : Nat} (hj : j < l.length) : atL l (j : Int) = some l[j] := by
 unfold atL
 rw [if_pos (by omega)]
 simp
theorem app_ok {α : Type} {l m : List α} (h : l.length + m.length ≤ bound) : app l m = some (l ++ m) := by unfold app; rw [if_pos h]
theorem w_succ {j n : Nat} (h : j < n) (hn : n ≤ 9223372036854775807) : IntKind.i64.wrap ((j : Int) + 1) = ((j + 1 : Nat) : Int) := by rw [wrap64 (by omega) (by omega)]; rfl
def neL {α : Type} (l : List α) : Option Unit :=
 match l with
 | [] => none
 | _ :: _ => some ()
end Ev
end Go.Proofs.Ytlkcneneagifoaa
end
section
namespace Go.Proofs.Ytlkcneneagifoaa
namespace Ev
open Go Go.RowKit
set_option linter.unusedVariables false
set_option linter.unusedSimpArgs false
section
variable {E : Env} {y : Nat → YldP} {n nt : Nat} {f : Nat → D} {L : BL}
def capsOf (nt : Nat) (f : Nat → D) (l : List Operand) : Option (List C) := l.mapM fun x => do match ← ov nt f x with | .one c => some c | _ => none
theorem q_mkfun {fn : Fn} {first cap : Array Operand} {fs cs : List C} (h1 : capsOf nt f first.toList = some fs) (h2 : capsOf nt f cap.toList = some cs) : PS E n nt f L (.makeFunc fn first cap) (.one (.clo fn fs cs)) := fun h nid hb => by
 show ((first.toList.mapM fun x => (opndG (slots (tab nt f)) x).bind fun d => match d with | .one c => some c | _ => none).bind fun a => (cap.toList.mapM fun x => (opndG (slots (tab nt f)) x).bind fun d => match d with | .one c => some c | _ => none).bind fun b => some (⟨.one (.clo fn a b), []⟩ : Eff)) = _
 rw [ov_fun]
 have h1' : (first.toList.mapM fun x => (ov nt f x).bind fun d => match d with | .one c => some c | _ => none) = some fs := h1
 have h2' : (cap.toList.mapM fun x => (ov nt f x).bind fun d => match d with | .one c => some c | _ => none) = some cs := h2
 rw [h1', h2']; rfl
def complI (k : IntKind) (a : Int) : Int := xorI k (if k.signed then -1 else k.max) a
theorem q_compl {ty : TypeId} {x : Operand} {fr : Bool} {k : IntKind} {a : Int} (hx : ov nt f x = some (.one (.p fr (.v (.int k a))))) : PS E n nt f L (.unOp .xor ty x) (iD k (complI k a)) := fun h nid hb => by
 show ((opndG (slots (tab nt f)) x).bind fun d => (plain d).bind fun v => (pureOf E.P (Op.unary .xor v)).bind mkO) = _
 rw [ov_eq, hx]
 cases k <;> rfl
def fA (args : List D) : Nat → D := fun i => args.getD i undefD
theorem tab_fA {args : List D} {k : Nat} (hl : args.length ≤ k) : args ++ List.replicate (k - args.length) undefD = tab k (fA args) := by
 rw [tab_of (args ++ List.replicate (k - args.length) undefD)]
 have hlen : (args ++ List.replicate (k - args.length) undefD).length = k := by simp; omega
 rw [hlen]
 refine List.ext_getElem? fun i => ?_
 rw [tab_get, tab_get]
 split
 ·rename_i hi
  congr 1
  unfold fA
  rw [List.getD_eq_getElem?_getD, List.getD_eq_getElem?_getD, List.getElem?_append]
  split
  ·rfl
  ·rename_i hge
   rw [List.getElem?_replicate, if_pos (by omega), List.getElem?_eq_none (by omega)]; rfl
 ·rfl
def callQ (E : Env) (y : Nat → YldP) (n nt : Nat) (ops : Array Oper) (r : List Oper) (K : St → Prop) (f : Nat → D) (d : Nat) (rv : List ResultVar) : Ex → St → Prop := fun e s => (e = .normal ∨ e = .ret) ∧ ∃ ds, rv.mapM (resultD E s) = some ds ∧ OpsW E y n ops r K { t := tab nt (up f d (tupD ds)), h := s.h }
variable {ops : Array Oper} {o : Oper} {r : List Oper} {K : St → Prop} {d : Nat} {Q : Ex → St → Prop}
theorem want_wanted {b : Bool} (h : wantF ops o nt f = some b) : wantedD ops (slots (tab nt f)) o = some b := by
 obtain ⟨g, g1, g2⟩ := wantF_eq h
 unfold gOf at g1
 unfold wantedD
 cases ho : o.guard with
 | none => rw [ho] at g1; simp only [Option.some.injEq] at g1; subst g1; exact g2
 | some p =>
  obtain ⟨j, w⟩ := p
  rw [ho] at g1
  simp only [Option.map_eq_some_iff] at g1
  obtain ⟨d, h1, h2⟩ := g1
  subst h2
  rw [Option.bind_eq_some_iff] at h1
  obtain ⟨o', h3, h4⟩ := h1
  have h3' : ops[j]? = some o' := by simpa using h3
  simp only [h3', h4, Option.bind_eq_bind, Option.bind_some]
  exact g2
theorem step_call {cp : CallP} {c : Call} {nid : Nat} {H : Heap} (hw : wantF ops o nt f = some true) (hc : isCall o.op = some c) : step E cp ops nid o (slots (tab nt f)) H = pcall cp nid c (slots (tab nt f)) H := by
 unfold step
 rw [want_wanted hw]
 simp only [Option.bind_eq_bind, Option.bind_some, if_true, hc]
theorem ol_scallN {c : Call} {k : FuncId} {args : List D} {fi : FI} (hw : wantF ops o nt f = some true) (hc : isCall o.op = some c) (hr : resolveD c (ov nt f) = some (k, args)) (hu : E.ax k = some fun _ => none) (hf : E.fn k = some fi) (hl : Nat.ble args.length fi.nt = true) (hd : o.dst = some d) (hn : Nat.blt d nt = true)
  (h : WpL E nY n fi.nt fi.body (callQ E y (n + 1) nt ops r K f d fi.results) (fA args) L) : OpsL E y (n + 1) nt ops (o :: r) K f L := fun H hb => by
 obtain ⟨e, s', ⟨M, h1⟩, h2, ds, h3, h4⟩ := h H hb
 refine opsW_cons (s1 := { t := tab nt (up f d (tupD ds)), h := s'.h }) ⟨M, fun m hm => ?_⟩ h4
 unfold evOp
 have hs : step E (callersY E y m (n + 1)).1 ops H.length o (slots (tab nt f)) H = none := by
  rw [step_call hw hc]
  unfold pcall
  rw [ov_fun, hr]
  simp only [Option.bind_eq_bind, Option.bind_some]
  cases args.mapM (viewD H) with
  | none => rfl
  | some vs =>
   have hn : (callersY E y m (n + 1)).1 k (vs.map (·.2)) = none := by
    show (match E.ax k with
     | some F => F _
     | none => _) = none
    rw [hu]
   simp only [Option.bind_some, hn]
   rfl
 simp only
 rw [hs]
 have hev := h1 m hm
 have hsc : scall (callersY E y m (n + 1)).2 ops o { t := tab nt f, h := H } = some { t := tab nt (up f d (tupD ds)), h := s'.h } := by
  unfold scall
  rw [want_wanted hw]
  simp only [Option.bind_eq_bind, Option.bind_some, if_true, hc]
  have hr' : resolveD c (opnd (tab nt f)) = some (k, args) := by
   show resolveD c (opndG (slots (tab nt f))) = _
   rw [ov_fun]; exact hr
  rw [hr']
  have hcall : (callersY E y m (n + 1)).2.f k args H = some (tupD ds, s'.h) := by
   show ((E.fn k).bind fun f => (evFn E (callersN E m n).1 ⟨(callersN E m n).2.1, (callersN E m n).2.2, noY⟩ m f args H).bind fun x => some (tupD x.1, x.2)) = _
   rw [hf]
   simp only [Option.bind_some]
   have : evFn E (callersN E m n).1 ⟨(callersN E m n).2.1, (callersN E m n).2.2, noY⟩ m fi args H = some (ds, s'.h) := by
    unfold evFn
    rw [tab_fA (Nat.le_of_ble_eq_true hl)]
    simp only [callersY] at hev
    rw [hev]
    rcases h2 with rfl | rfl <;> simp [h3]
   rw [this]; rfl
  simp only [Option.bind_some, hcall, hd, setT, tab_len, blt_lt hn, if_true, tab_set, up_eq]
 rw [hsc]; rfl
theorem E_call {nt' : Nat} {f' : Nat → D} {L' : BL} {rv : List ResultVar} {ds : List D} {e : Ex} {v : D} (he : e = .normal ∨ e = .ret) (hr : ResL E nt' f' L' rv ds) (hv : tupD ds = v) (h : OpsL E y n nt ops r K (up f d v) L') : EndL nt' (callQ E y n nt ops r K f d rv) e f' L' := fun H hb => by
 subst hv
 exact ⟨he, ds, hr H hb, h H hb⟩
def roundY (E : Env) (y : Nat → YldP) (n k : Nat) (t : List D) (ps : List Tmp) (asg body : Code) : Nat → YldP := fun m j args h =>
 if j = k ∧ args.length = ps.length then do
  let (e, s1) ← evC E (callersY E y m n).1 (callersY E y m n).2 m asg { t := setPs t ps args, h := h }
  match e with
  | .normal => do
   let (e, s2) ← evC E (callersY E y m n).1 (callersY E y m n).2 m body s1
   some (e, s2.h)
  | _ => none
 else none
def rangeQ (nt : Nat) (f : Nat → D) (k : Nat) (Q : Ex → St → Prop) : Ex → St → Prop := fun e s => (e = .normal ∨ e = .ret) ∧ ∃ es, getBlk s.h k = some (0, es) ∧ Q (yout es) { t := tab nt f, h := s.h }
theorem L_range {g : Operand} {ps : Array Tmp} {asg body : Code} {k : FuncId} {fs cs : List C} {fi : FI} (hg : ov nt f g = some (.one (.clo (.func k) fs cs))) (hf : E.fn k = some fi) (hl : Nat.ble (fs.length + 1 + cs.length) fi.nt = true) (hres : fi.results = [])
  (h : ∀ kl, WpL E (roundY E y (n + 1) kl (tab nt f) ps.toList asg body) n fi.nt fi.body (rangeQ nt f kl Q) (fA (fs.map D.one ++ [D.one (.yld kl)] ++ cs.map D.one)) ([(kl, 0, [])] :: L)) : WpL E y (n + 1) nt (.rangeFunc g ps asg body) Q f L := fun H hb => by
 obtain ⟨e, s', ⟨M, h1⟩, h2, es, h3, h4⟩ := h H.length _ (hb.new 0 [])
 refine ⟨yout es, { t := tab nt f, h := s'.h }, ⟨M, fun m hm => ?_⟩, h4⟩
 have hev := h1 m hm
 have hg' : opnd (tab nt f) g = some (.one (.clo (.func k) fs cs)) := (ov_eq nt f g).trans hg
 simp only [evC, Option.bind_eq_bind, hg', Option.bind_some]
 have hcall : (callersY E y m (n + 1)).2.r (roundY E y (n + 1) H.length (tab nt f) ps.toList asg body m) k (fs.map D.one ++ [D.one (.yld H.length)] ++ cs.map D.one) (putBlk H H.length (.own 0 [])) = some s'.h := by
  show ((E.fn k).bind fun f => (evFn E (callersN E m n).1 ⟨(callersN E m n).2.1, (callersN E m n).2.2, roundY E y (n + 1) H.length (tab nt _) ps.toList asg body m⟩ m f _ _).bind fun x => some x.2) = _
  rw [hf]
  simp only [Option.bind_some]
  have : evFn E (callersN E m n).1 ⟨(callersN E m n).2.1, (callersN E m n).2.2, roundY E y (n + 1) H.length (tab nt f) ps.toList asg body m⟩ m fi (fs.map D.one ++ [D.one (.yld H.length)] ++ cs.map D.one) (putBlk H H.length (.own 0 [])) = some ([], s'.h) := by
   unfold evFn
   rw [tab_fA (by have := Nat.le_of_ble_eq_true hl; simp; omega)]
   simp only [callersY] at hev
   rw [hev, hres]
   rcases h2 with rfl | rfl <;> rfl
  rw [this]; rfl
 refine (congrArg (fun z : Option Heap => z.bind fun h => (getBlk h H.length).bind fun x => if x.1 = 0 then some (yout x.2, ({ t := tab nt f, h := h } : St)) else none) hcall).trans ?_
 simp only [Option.bind_some, h3, if_true]
theorem E_range {nt' k p : Nat} {f' : Nat → D} {L' : BL} {es : List (List C)} {e : Ex} (he : e = .normal ∨ e = .ret) (hp : L'[p]? = some [(k, 0, es)]) (h : EndL nt Q (yout es) f L') : EndL nt' (rangeQ nt f k Q) e f' L' := fun H hb => ⟨he, es, hb.get hp, h H hb⟩
def thenR (K : St → Prop) : Ex → St → Prop := fun e s => e = .normal ∧ K s
def roundQ (E : Env) (y : Nat → YldP) (n nt : Nat) (ops : Array Oper) (r : List Oper) (K : St → Prop) (f : Nat → D) (d k : Nat) : Ex → St → Prop := fun e s => OpsW E y n ops r K { t := tab nt (up f d (bD (e == .normal))), h := putBlk s.h k (yblk e) }
def setF (f : Nat → D) : List Tmp → List D → Nat → D
 | p :: ps, d :: ds => setF (up f p d) ps ds
 | _, _ => f
theorem tab_set' (f : Nat → D) (p : Nat) (d : D) : (tab nt f).set p d = tab nt (up f p d) := by
 rw [← up_eq]
 refine List.ext_getElem? fun i => ?_
 rw [List.getElem?_set, tab_get, tab_get, tab_len]
 unfold upd
 by_cases h1 : p = i
 ·subst h1
  by_cases h2 : p < nt
  ·simp [h2]
  ·simp [h2]
 ·rw [if_neg h1]
  split
  ·rw [if_neg (fun e : i = p => h1 e.symm)]
  ·rfl
theorem setPs_tab : ∀ (ps : List Tmp) (ds : List D) (f : Nat → D), setPs (tab nt f) ps ds = tab nt (setF f ps ds)
 | [], [], f => by simp [setPs, setF]
 | [], d :: ds, f => by simp [setPs, setF]
 | p :: ps, [], f => by simp [setPs, setF]
 | p :: ps, d :: ds, f => by
  simp only [setPs, setF]
  rw [tab_set', setPs_tab]
def argsOf (nt : Nat) (f : Nat → D) (l : List Operand) : Option (List D) := l.mapM (ov nt f)
theorem ol_yield {y0 : Nat → YldP} {n0 nt0 k p : Nat} {f0 : Nat → D} {ps : List Tmp} {asg body : Code} {c : Call} {x : Operand} {args : List D} (hw : wantF ops o nt f = some true) (hc : isCall o.op = some c) (hcal : c.callee = .value x) (hx : ov nt f x = some (.one (.yld k))) (ha : argsOf nt f c.args.toList = some args) (hla : Nat.beq args.length ps.length = true) (hp : L[p]? = some [(k, 0, [])]) (hd : o.dst = some d) (hn : Nat.blt d nt = true)
  (h : WpL E y0 n0 nt0 asg (thenR (WpC E y0 n0 body (roundQ E (roundY E y0 n0 k (tab nt0 f0) ps asg body) n nt ops r K f d k))) (setF f0 ps args) L) : OpsL E (roundY E y0 n0 k (tab nt0 f0) ps asg body) n nt ops (o :: r) K f L := fun H hb => by
 obtain ⟨e1, s1, ⟨M1, h1⟩, rfl, e2, s2, ⟨M2, h2⟩, h3⟩ := h H hb
 refine opsW_cons (s1 := { t := tab nt (up f d (bD (e2 == .normal))), h := putBlk s2.h k (yblk e2) }) ⟨max M1 M2, fun m hm => ?_⟩ h3
 have hres : resolveD c (opndG (slots (tab nt f))) = none := by
  rw [ov_fun]
  unfold resolveD
  rw [hcal]
  have ha' : c.args.toList.mapM (ov nt f) = some args := ha
  simp only [ha', hx, Option.bind_eq_bind, Option.bind_some]
 unfold evOp
 have hs : step E (callersY E (roundY E y0 n0 k (tab nt0 f0) ps asg body) m n).1 ops H.length o (slots (tab nt f)) H = none := by
  rw [step_call hw hc]
  unfold pcall
  rw [hres]; rfl
 simp only
 rw [hs]
 have hsc : scall (callersY E (roundY E y0 n0 k (tab nt0 f0) ps asg body) m n).2 ops o { t := tab nt f, h := H } = none := by
  unfold scall
  rw [want_wanted hw]
  simp only [Option.bind_eq_bind, Option.bind_some, if_true, hc]
  have hr' : resolveD c (opnd (tab nt f)) = none := hres
  rw [hr']; rfl
 have hy : ycall (callersY E (roundY E y0 n0 k (tab nt0 f0) ps asg body) m n).2 ops o { t := tab nt f, h := H } = some { t := tab nt (up f d (bD (e2 == .normal))), h := putBlk s2.h k (yblk e2) } := by
  unfold ycall
  rw [want_wanted hw]
  simp only [Option.bind_eq_bind, Option.bind_some, if_true, hc, hcal]
  have ha' : c.args.toList.mapM (opnd (tab nt f)) = some args := by
   show c.args.toList.mapM (opndG (slots (tab nt f))) = _
   rw [ov_fun]; exact ha
  have hx' : opnd (tab nt f) x = some (.one (.yld k)) := (ov_eq nt f x).trans hx
  rw [ha', hx']
  simp only [Option.bind_some, hb.get hp, and_self, if_true]
  have hround : (callersY E (roundY E y0 n0 k (tab nt0 f0) ps asg body) m n).2.y k args H = some (e2, s2.h) := by
   show roundY E y0 n0 k (tab nt0 f0) ps asg body m k args H = _
   unfold roundY
   rw [if_pos ⟨rfl, Nat.eq_of_beq_eq_true hla⟩, setPs_tab, h1 m (by omega)]
   simp only [Option.bind_eq_bind, Option.bind_some]
   rw [h2 m (by omega)]; rfl
  rw [hround]
  simp only [Option.bind_some, hd, setT, tab_len, blt_lt hn, if_true, tab_set, up_eq]
  rfl
 rw [hsc, hy]; rfl
theorem E_asg {c : Code} (h : WpL E y n nt c Q f L) : EndL nt (thenR (WpC E y n c Q)) .normal f L := fun H hb => ⟨rfl, h H hb⟩
theorem getBlk_own {h : Heap} {k sz : Nat} {es : List (List C)} (hk : getBlk h k = some (sz, es)) : h[k]? = some (.own sz es) := getBlk_some hk
theorem E_roundN {nt' k p : Nat} {f' : Nat → D} (hp : L[p]? = some [(k, 0, [])]) (h : OpsL E y n nt ops r K (up f d (bD true)) L) : EndL nt' (roundQ E y n nt ops r K f d k) .normal f' L := fun H hb => by
 have := put_same (getBlk_own (hb.get hp))
 show OpsW E y n ops r K { t := _, h := putBlk H k (.own 0 []) }
 rw [this]
 exact h H hb
end
section
variable {X Up KT : Type} {nt : Nat}
variable {ex : Ex} {S : X → KT → (Nat → D) → Nat → D} {SL : X → KT → BL} {J : Up → Ex → St → Prop} {G : Up → Ex → St → Prop}
end
end Ev
end Go.Proofs.Ytlkcneneagifoaa
end
section
namespace Go.Proofs.Ytlkcneneagifoaa
namespace Ev
namespace K
open Go Go.RowKit
set_option linter.unusedVariables false
set_option linter.unusedSimpArgs false
inductive Ty where
 | I (k : IntKind)
 | B
 | S (e : Ty)
 | U
 | C (x y : Ty)
 deriving DecidableEq, Inhabited
namespace Ty
@[reducible] def val : Ty → Type
 | .I _ => Int
 | .B => Bool
 | .S e => Sl e.val
 | .U => Unit
 | .C x y => x.val × y.val
def size : Ty → Nat
 | .U => 0
 | .C x y => x.size + y.size
 | _ => 1
def row : (t : Ty) → t.val → List T
 | .I k, x => [iT k x]
 | .B, x => [bT x]
 | .S e, x => [Sl.t e.row x]
 | .U, _ => []
 | .C a b, x => a.row x.1 ++ b.row x.2
def zero : (t : Ty) → t.val
 | .I _ => (0 : Int)
 | .B => false
 | .S _ => ⟨false, 0, []⟩
 | .U => ()
 | .C a b => (a.zero, b.zero)
def plain : Ty → Bool
 | .S _ => false
 | .C a b => a.plain && b.plain
 | _ => true
end Ty
def castV (t t' : Ty) (x : t.val) : Option t'.val := if h : t = t' then some (h ▸ x) else none
inductive KC where
 | n (k : IntKind) (x : Int)
 | b (v : Bool)
 | p (tag : Nat) (P : Prop) (d : Decidable P)
 | bv (x : Bool)
 | v (x : Value)
 | nil
 | s (e : Ty) (fr : Bool) (x : Sl e.val)
 | o (e : Ty) (p : Nat)
 | m (e : Ty) (p : Nat)
 | ptr (p j : Nat)
 | pe (p : Nat) (i : Int) (j : Nat)
 | ip (e : Ty) (fr : Bool) (x : Sl e.val) (i : Int) (y : e.val) (j : Nat)
 | clo (fn : FuncId) (ps : List Nat)
 | yld (p : Nat)
inductive KD where
 | one (c : KC)
 | agg (cs : List KC)
 | tup (ds : List (Bool × List KC))
inductive KB where
 | box (cs : List KC)
 | rows (e : Ty) (ne : Bool) (l : List e.val)
 | mrows (e : Ty) (l : List e.val)
 | dead
structure KS where
 sl : List (Nat × KD)
 bl : List (Nat × KB)
 nx : Nat
structure KF where
 nt : Nat := 0
 sl : List (Nat × KD) := []
 bl : List (Nat × KB) := []
def look {α : Type} : List (Nat × α) → Nat → Option α
 | [], _ => none
 | x :: r, i => cond (Nat.beq x.1 i) (some x.2) (look r i)
def lookF {α : Type} (l m : List (Nat × α)) (i : Nat) : Option α :=
 match look l i with
 | some a => some a
 | none => look m i
def getS (F : KF) (ks : KS) (i : Nat) : Option KD := lookF ks.sl F.sl i
def getB (F : KF) (ks : KS) (p : Nat) : Option KB :=
 match lookF ks.bl F.bl p with
 | some .dead => none
 | x => x
def kcells (fr : Bool) : (e : Ty) → e.val → List KC
 | .I k, x => [.n k x]
 | .B, x => [.bv x]
 | .S e, x => [.s e fr x]
 | .U, _ => []
 | .C a b, x => kcells fr a x.1 ++ kcells fr b x.2
def decC (B : Nat → Option KB) : (e : Ty) → KC → Option e.val
 | .I k, .n k' x => if k = k' then some x else none
 | .B, .b v => some v
 | .B, .p _ P d => some (@decide P d)
 | .B, .bv x => some x
 | .S e, .nil => some ⟨false, 0, []⟩
 | .S e, .s e' _ x => castV (.S e') (.S e) x
 | .S e, .o _ p => match B p with
  | some (.rows e' _ l) => castV (.S e') (.S e) ⟨true, e'.size, l⟩
  | _ => none
 | .S e, .m _ p => match B p with
  | some (.mrows e' l) => castV (.S e') (.S e) (mo e'.size l)
  | _ => none
 | _, _ => none
def dec (B : Nat → Option KB) : (e : Ty) → List KC → Option e.val
 | .U, [] => some ()
 | .C a b, cs => (dec B a (cs.take a.size)).bind fun x => (dec B b (cs.drop a.size)).bind fun y => some (x, y)
 | e, [c] => decC B e c
 | _, _ => none
def noB : Nat → Option KB := fun _ => none
def frC : KC → Bool
 | .s _ fr _ => fr
 | _ => true
def unowned : KC → Bool
 | .n .. | .b _ | .p .. | .bv _ | .v _ | .nil | .s .. => true
 | _ => false
abbrev TyD := Bool × Ty
@[reducible] def vals : List TyD → Type
 | [] => Unit
 | [t] => t.2.val
 | t :: r => t.2.val × vals r
def tdOf (t : TyD) (x : t.2.val) : TD :=
 match t with
 | (true, e) => .agg (e.row x)
 | (false, e) => match e.row x with
  | [y] => .one y
  | ys => .agg ys
def tdsOf : (ts : List TyD) → vals ts → List TD
 | [], _ => []
 | [t], x => [tdOf t x]
 | t :: t' :: r, x => tdOf t x.1 :: tdsOf (t' :: r) x.2
def mkD (x : Bool × List KC) : KD :=
 match x with
 | (true, cs) => .agg cs
 | (false, [c]) => .one c
 | (false, cs) => .agg cs
def kdOf (fr : Bool) (t : TyD) (x : t.2.val) : Bool × List KC := (t.1, kcells fr t.2 x)
def kdsOf (fr : Bool) : (ts : List TyD) → vals ts → List (Bool × List KC)
 | [], _ => []
 | [t], x => [kdOf fr t x]
 | t :: t' :: r, x => kdOf fr t x.1 :: kdsOf fr (t' :: r) x.2
def decD (B : Nat → Option KB) (t : TyD) : KD → Option t.2.val
 | .one c => if t.1 then none else decC B t.2 c
 | .agg cs => if t.1 then dec B t.2 cs else none
 | .tup _ => none
def decDs (B : Nat → Option KB) : (ts : List TyD) → List KD → Option (vals ts)
 | [], [] => some ()
 | [t], [d] => decD B t d
 | t :: t' :: r, d :: ds => (decD B t d).bind fun x => (decDs B (t' :: r) ds).bind fun y => some (x, y)
 | _, _ => none
def unownedD : KD → Bool
 | .one c => unowned c
 | .agg cs => cs.all unowned
 | .tup _ => false
inductive OutK where
 | data (fr : Bool) (ts : List TyD)
 | own (e : Ty)
 | mown (e : Ty)
 | gown (e : Ty)
@[reducible] def OutK.val : OutK → Type
 | .data _ ts => vals ts
 | .own e => List e.val
 | .mown e => List e.val
 | .gown e => Sl e.val
structure Entry where
 k : FuncId
 ins : List TyD
 out : OutK
 f : vals ins → Option out.val
 d : Nat
structure KG where
 ti : List (Nat × TI)
 eqs : List (Nat × List IntKind)
 fns : List Entry
 fi : List (FuncId × FI)
def KG.fn (G : KG) (k : FuncId) : Option Entry := G.fns.find? fun e => Nat.beq e.k k
def tyOf (ti : List (Nat × TI)) : Nat → TypeId → Option Ty
 | 0, _ => none
 | n + 1, t => match look ti t with
  | none => none
  | some i => match i.desc with
   | .int k => some (.I k)
   | .bool => some .B
   | .slice e => (tyOf ti n e).map .S
   | .array m e => (tyOf ti n e).bind fun x => prod (List.replicate m x)
   | .struct fs => (seqO (fs.toList.map fun f => tyOf ti n f.type)).bind prod
   | _ => none
where
 prod : List Ty → Option Ty
  | [] => some .U
  | [x] => some x
  | x :: y :: r => (prod (y :: r)).map (.C x)
 seqO : List (Option Ty) → Option (List Ty)
  | [] => some []
  | none :: _ => none
  | some x :: r => (seqO r).map (x :: ·)
def KG.ty (G : KG) (t : TypeId) : Option Ty := tyOf G.ti 9 t
def KG.elem (G : KG) (t : TypeId) : Option (TypeId × Ty × Nat) :=
 match look G.ti t with
 | some i => match elemOf i with
  | some e => match look G.ti e with
   | some te => (G.ty e).map fun x => (e, x, te.size)
   | none => none
  | none => none
 | none => none
structure KE where
 v : KD
 upd : Option (Nat × KB) := none
 new : Option KB := none
def kC : Value → KC
 | .int k n => .n k n
 | .bool b => .b b
 | .slice none 0 0 => .nil
 | x => .v x
def kConst : Value → Option KD
 | .agg cs => if cs.toList.all one1 then some (.agg (cs.toList.map kC)) else none
 | .tuple _ => none
 | v => some (.one (kC v))
def kO (F : KF) (ks : KS) : Operand → Option KD
 | .tmp i => getS F ks i
 | .const v => kConst v
 | .global _ => none
 | .func f => some (.one (.v (.func (.func f) #[] #[])))
def kUn : KD := .tup []
def kInt (tag : Nat) (op : BinOp) (k k' : IntKind) (a b : Int) {R : Type} (κ : KE → Option R) : Option R :=
 match op with
 | .shl => (shl1 k a b).bind fun z => κ ⟨.one (.n k z), none, none⟩
 | .shr => (shr1 k a b).bind fun z => κ ⟨.one (.n k z), none, none⟩
 | op => if k = k' then match op with
  | .add => κ ⟨.one (.n k (k.wrap (a + b))), none, none⟩
  | .sub => κ ⟨.one (.n k (k.wrap (a - b))), none, none⟩
  | .mul => κ ⟨.one (.n k (k.wrap (a * b))), none, none⟩
  | .and => κ ⟨.one (.n k (andI k a b)), none, none⟩
  | .or => κ ⟨.one (.n k (orI k a b)), none, none⟩
  | .xor => κ ⟨.one (.n k (xorI k a b)), none, none⟩
  | .andNot => κ ⟨.one (.n k (andNotI k a b)), none, none⟩
  | .quo => (divO k a b).bind fun z => κ ⟨.one (.n k z), none, none⟩
  | .rem => (modO a b).bind fun z => κ ⟨.one (.n k z), none, none⟩
  | .eql => κ ⟨.one (.p tag (a = b) (Int.instDecidableEq a b)), none, none⟩
  | .neq => κ ⟨.one (.p tag (a ≠ b) (@instDecidableNot _ (Int.instDecidableEq a b))), none, none⟩
  | .lss => κ ⟨.one (.p tag (a < b) (Int.decLt a b)), none, none⟩
  | .leq => κ ⟨.one (.p tag (a ≤ b) (Int.decLe a b)), none, none⟩
  | .gtr => κ ⟨.one (.p tag (a > b) (Int.decLt b a)), none, none⟩
  | .geq => κ ⟨.one (.p tag (a ≥ b) (Int.decLe b a)), none, none⟩
  | _ => none
 else none
def isNilC : Operand → Bool
 | .const (.slice none 0 0) => true
 | _ => false
def kNilEq (op : BinOp) (tag : Nat) (P : Prop) (d : Decidable P) : Option KC :=
 match op with
 | .eql => some (.p tag P d)
 | .neq => some (.p tag (¬ P) (@instDecidableNot P d))
 | _ => none
def kNilB (op : BinOp) (v : Bool) : Option KC :=
 match op with
 | .eql => some (.b v)
 | .neq => some (.b (!v))
 | _ => none
def eqP : List (Int × Int) → Prop
 | [] => True
 | [x] => x.1 = x.2
 | x :: y :: r => x.1 = x.2 ∧ eqP (y :: r)
def eqD : (l : List (Int × Int)) → Decidable (eqP l)
 | [] => .isTrue trivial
 | [x] => Int.instDecidableEq x.1 x.2
 | x :: y :: r => @instDecidableAnd _ _ (Int.instDecidableEq x.1 x.2) (eqD (y :: r))
def zipN : List IntKind → List KC → List KC → Option (List (Int × Int))
 | [], [], [] => some []
 | k :: ks, .n k1 x :: r, .n k2 y :: s => if k1 = k ∧ k2 = k then (zipN ks r s).map ((x, y) :: ·) else none
 | _, _, _ => none
def kBool : KC → Option Bool
 | .b v => some v
 | .p _ P d => some (@decide P d)
 | .bv x => some x
 | _ => none
def isBoolT (ti : List (Nat × TI)) (t : TypeId) : Bool := match look ti t with
 | some i => match i.desc with
  | .bool => true
  | _ => false
 | none => false
def kBin (G : KG) (F : KF) (ks : KS) (tag : Nat) (op : BinOp) (ty : TypeId) (y : Operand) (a b : KD) {R : Type} (κ : KE → Option R) : Option R :=
 match a, b with
 | .one (.n k x), .one (.n k' x') => kInt tag op k k' x x' κ
 | .one (.s e fr x), _ => match isNilC y, G.elem ty with
  | true, some _ => (kNilEq op tag (x.nn = false) (instDecidableEqBool x.nn false)).bind fun c => κ ⟨.one c, none, none⟩
  | _, _ => none
 | .one (.o e p), _ => match isNilC y, G.elem ty, getB F ks p with
  | true, some _, some (.rows _ _ _) => (kNilB op false).bind fun c => κ ⟨.one c, none, none⟩
  | _, _, _ => none
 | .one .nil, _ => match isNilC y, G.elem ty with
  | true, some _ => (kNilB op true).bind fun c => κ ⟨.one c, none, none⟩
  | _, _ => none
 | .agg cs, .agg ds => match look G.eqs ty with
  | some kinds => match zipN kinds cs ds with
   | some l => (kNilEq op tag (eqP l) (eqD l)).bind fun c => κ ⟨.one c, none, none⟩
   | none => none
  | none => none
 | .one c, .one d => match isBoolT G.ti ty, kBool c, kBool d with
  | true, some x, some x' => (kNilEq op tag (x = x') (instDecidableEqBool x x')).bind fun c => κ ⟨.one c, none, none⟩
  | _, _, _ => none
 | _, _ => none
def kOf (agg : Bool) (cs : List KC) : Option KD :=
 if agg then some (.agg cs) else match cs with
  | [c] => some (.one c)
  | _ => none
def kCs : KD → Option (List KC)
 | .one c => some [c]
 | .agg cs => some cs
 | .tup _ => none
def wd (z : Nat × Bool) : Nat := cond z.2 z.1 1
def szOf (ti : List (Nat × TI)) (t : TypeId) : Option (Nat × Bool) := match look ti t with
 | some i => some (i.size, isAggD i.desc)
 | none => none
def fdOf (ti : List (Nat × TI)) (t : TypeId) (m : Nat) : Option (Nat × Nat × Bool) := match look ti t with
 | some i => match fieldOf i m with
  | some fd => match look ti fd.type with
   | some ft => some (fd.offset, ft.size, isAggD ft.desc)
   | none => none
  | none => none
 | none => none
def kLoad (F : KF) (ks : KS) (z : Nat × Bool) (a : KD) {R : Type} (κ : KD → Option R) : Option R :=
 match a with
 | .one (.ptr p j) => match getB F ks p with
  | some (.box cs) => ((cut cs j (wd z)).bind (kOf z.2)).bind κ
  | _ => none
 | .one (.ip e fr x i y j) => ((cut (kcells fr e y) j (wd z)).bind (kOf z.2)).bind κ
 | .one (.pe p i j) => match getB F ks p with
  | some (.rows e _ l) => (atL l i).bind fun y => ((cut (kcells true e y) j (wd z)).bind (kOf z.2)).bind κ
  | some (.mrows e l) => (atL l i).bind fun y => ((cut (kcells true e y) j (wd z)).bind (kOf z.2)).bind κ
  | _ => none
 | _ => none
def kStore (ks : KS) (sz : Nat) (a x : KD) {R : Type} (κ : KE → Option R) : Option R :=
 match kCs x with
 | none => none
 | some cs => if cs.length = sz then match a with
  | .one (.ptr p j) => match look ks.bl p with
   | some (.box es) => (patch es j cs).bind fun es' => κ ⟨kUn, some (p, .box es'), none⟩
   | _ => none
  | .one (.pe p i j) => match look ks.bl p with
   | some (.rows e ne l) => if cs.all frC then (atL l i).bind fun y => (patch (kcells true e y) j cs).bind fun es' => (dec noB e es').bind fun y' => κ ⟨kUn, some (p, .rows e ne (l.set i.toNat y')), none⟩ else none
   | some (.mrows e l) => if cs.all frC then (atL l i).bind fun y => (patch (kcells true e y) j cs).bind fun es' => (dec noB e es').bind fun y' => κ ⟨kUn, some (p, .mrows e (l.set i.toNat y')), none⟩ else none
   | _ => none
  | _ => none
 else none
def kPlaces (ti : List (Nat × TI)) (t : TypeId) : Option (Nat → Option (Nat × Nat)) := match look ti t with
 | some i => match i.desc with
  | .struct fs => (seqP (fs.toList.map fun f => match look ti f.type with
   | some q => some (f.offset, q.size)
   | none => none)).map fun l n => l[n]?
  | .array _ e => match look ti e with
   | some te => some fun n => some (n * te.size, te.size)
   | none => none
  | _ => none
 | none => none
where
 seqP : List (Option (Nat × Nat)) → Option (List (Nat × Nat))
  | [] => some []
  | none :: _ => none
  | some x :: r => (seqP r).map (x :: ·)
def kFill (place : Nat → Option (Nat × Nat)) (cells : List KC) : List (Nat × KD) → Option (List KC)
 | [] => some cells
 | (i, d) :: r => match place i, kCs d with
  | some (off, size), some cs => if cs.length = size then (patch cells off cs).bind fun c => kFill place c r else none
  | _, _ => none
def kParts (F : KF) (ks : KS) : List (Nat × Operand) → Option (List (Nat × KD))
 | [] => some []
 | (i, x) :: r => (kO F ks x).bind fun d => (kParts F ks r).bind fun l => some ((i, d) :: l)
def kArgs (F : KF) (ks : KS) : List Operand → Option (List KD)
 | [] => some []
 | x :: r => (kO F ks x).bind fun d => (kArgs F ks r).bind fun l => some (d :: l)
def decRows (e : Ty) : List (List KC) → Option (List e.val)
 | [] => some []
 | cs :: r => if cs.all frC = true then (dec noB e cs).bind fun x => (decRows e r).bind fun l => some (x :: l) else none
def kRows (z : Nat) (cs : List KC) : Nat → Nat → Option (List (List KC))
 | 0, _ => some []
 | n + 1, i => (cut cs (i * z) z).bind fun a => (kRows z cs n (i + 1)).bind fun l => some (a :: l)
def kElems (F : KF) (ks : KS) (e : Ty) : KC → Option (List e.val × Bool)
 | .nil => some ([], false)
 | .s e' fr x => if (fr || e'.plain) = true then (castV (.S e') (.S e) x).map fun x => (x.l, false) else none
 | .o _ p => match getB F ks p with
  | some (.rows e' ne l) => (castV (.S e') (.S e) ⟨true, 0, l⟩).map fun x => (x.l, ne)
  | _ => none
 | .m _ p => match getB F ks p with
  | some (.mrows e' l) => (castV (.S e') (.S e) ⟨true, 0, l⟩).map fun x => (x.l, false)
  | _ => none
 | _ => none
def kAppend (F : KF) (ks : KS) (nid : Nat) (e : Ty) (a x : KC) {R : Type} (κ : KE → Option R) : Option R :=
 match kElems F ks e x with
 | none => none
 | some (xs, ne) => match a with
  | .nil => (app [] xs).bind fun lm => cond ne (κ ⟨.one (.o e nid), none, some (.rows e true lm)⟩) (κ ⟨.one (.m e nid), none, some (.mrows e lm)⟩)
  | .o _ p => match look ks.bl p with
   | some (.rows e' ne' l) => (castV (.S e') (.S e) ⟨true, 0, l⟩).bind fun l => (app l.l xs).bind fun lm => κ ⟨.one (.o e nid), some (p, .dead), some (.rows e (ne || ne') lm)⟩
   | _ => none
  | .m _ p => match look ks.bl p with
   | some (.mrows e' l) => (castV (.S e') (.S e) ⟨true, 0, l⟩).bind fun l => (app l.l xs).bind fun lm => cond ne (κ ⟨.one (.o e nid), some (p, .dead), some (.rows e true lm)⟩) (κ ⟨.one (.m e nid), some (p, .dead), some (.mrows e lm)⟩)
   | _ => none
  | _ => none
def kLen (F : KF) (ks : KS) : KC → Option Int
 | .nil => some 0
 | .s _ _ x => some ((x.l.length : Nat) : Int)
 | .o _ p => match getB F ks p with
  | some (.rows _ _ l) => some ((l.length : Nat) : Int)
  | _ => none
 | .m _ p => match getB F ks p with
  | some (.mrows _ l) => some ((l.length : Nat) : Int)
  | _ => none
 | _ => none
def kBuiltin (G : KG) (F : KF) (ks : KS) (nid : Nat) (c : Call) (b : Builtin) (args : List KD) {R : Type} (κ : KE → Option R) : Option R :=
 match c.argTypes[0]? with
 | none => none
 | some ty => match b, args with
  | .len, [.one x] => match G.elem ty with
   | some _ => (kLen F ks x).bind fun n => κ ⟨.one (.n .i64 n), none, none⟩
   | none => none
  | .min, [.one (.n k x), .one (.n _ y)] => match look G.ti ty with
   | some _ => κ ⟨.one (.n k (minI x y)), none, none⟩
   | none => none
  | .max, [.one (.n k x), .one (.n _ y)] => match look G.ti ty with
   | some _ => κ ⟨.one (.n k (maxI x y)), none, none⟩
   | none => none
  | .append, [.one a, .one x] => match G.elem ty, (c.argTypes[1]?).bind G.elem with
   | some (_, e, z), some _ => if e.size = z ∧ z ≠ 0 then kAppend F ks nid e a x κ else none
   | _, _ => none
  | .copy, [.one (.o _ p), .one x] => match G.elem ty, (c.argTypes[1]?).bind G.elem, look ks.bl p with
   | some (_, e, z), some _, some (.rows e' ne l) => if e.size = z ∧ z ≠ 0 then match kElems F ks e x with
    | some (xs, _) => (castV (.S e') (.S e) ⟨true, 0, l⟩).bind fun l => (cpL l.l xs).bind fun lm => κ ⟨.one (.n .i64 ((xs.length : Nat) : Int)), some (p, .rows e ne lm), none⟩
    | none => none
    else none
   | _, _, _ => none
  | _, _ => none
def tupKD : List (Bool × List KC) → KD
 | [d] => mkD d
 | ds => .tup ds
def kRes (nid : Nat) : (o : OutK) → o.val → KE
 | .data fr ts, x => ⟨tupKD (kdsOf fr ts x), none, none⟩
 | .own e, l => ⟨.one (.o e nid), none, some (.rows e false l)⟩
 | .mown e, l => ⟨.one (.m e nid), none, some (.mrows e l)⟩
 | .gown _, _ => ⟨.one .nil, none, none⟩
def kCallE (F : KF) (ks : KS) (nid : Nat) (en : Entry) (args : List KD) {R : Type} (κ : KE → Option R) : Option R :=
 match en.out with
 | .data false _ => if args.all unownedD then (decDs (getB F ks) en.ins args).bind fun a => (en.f a).bind fun out => κ (kRes nid en.out out) else none
 | .gown _ => none
 | _ => (decDs (getB F ks) en.ins args).bind fun a => (en.f a).bind fun out => κ (kRes nid en.out out)
def kResolve (F : KF) (ks : KS) (c : Call) : Option (FuncId × List KD) :=
 match c.callee with
 | .value f => match kO F ks f, kArgs F ks c.args.toList with
  | some (.one (.v (.func (.func k) first cap))), some args => if first.size = 0 ∧ cap.size = 0 then some (k, args) else none
  | some (.one (.clo k ps)), some args => some (k, args ++ ps.map fun p => .one (.ptr p 0))
  | _, _ => none
 | _ => none
def kCaps : List KD → Option (List Nat)
 | [] => some []
 | .one (.ptr p j) :: r => if j = 0 then (kCaps r).map (p :: ·) else none
 | _ => none
def kBound (F : KF) (ks : KS) (o : Option Operand) (d : Int) : Option Int :=
 match o with
 | none => some d
 | some x => match kO F ks x with
  | some (.one (.n _ i)) => some i
  | _ => none
def cutM {R : Type} (b : Bool) (n : Nat) (j m : Int) (x : Option R) : Option R := cond b (if j ≤ m ∧ m ≤ (n : Int) then x else none) x
theorem cutM_some {R : Type} {b : Bool} {n : Nat} {j m : Int} {x : Option R} {r : R} (h : cutM b n j m x = some r) : x = some r ∧ (b = true → j ≤ m ∧ m ≤ (n : Int)) := by
 unfold cutM at h
 cases b with
 | false => exact ⟨h, fun h => by simp at h⟩
 | true =>
  simp only [cond_true] at h
  split at h
  ·rename_i hc; exact ⟨h, fun _ => hc⟩
  ·simp at h
def stepK (G : KG) (F : KF) (ks : KS) (tag nid : Nat) (op : Op) {R : Type} (κ : KE → Option R) : Option R :=
 match op with
 | .move x | .assign x => (kO F ks x).bind fun d => κ ⟨d, none, none⟩
 | .alloc t => match look G.ti t with
  | some i => κ ⟨.one (.ptr nid 0), none, some (.box (i.zero.map kC))⟩
  | none => none
 | .box t x => match look G.ti t, (kO F ks x).bind kCs with
  | some _, some cs => κ ⟨.one (.ptr nid 0), none, some (.box cs)⟩
  | _, _ => none
 | .build t parts => match look G.ti t, kPlaces G.ti t, kParts F ks parts.toList with
  | some i, some pl, some ps => (kFill pl (i.zero.map kC) ps).bind fun cs => κ ⟨.agg cs, none, none⟩
  | _, _, _ => none
 | .buildSlice t len parts => match G.elem t, kParts F ks parts.toList with
  | some (te, e, z), some ps => match look G.ti te with
   | some i => if e.size = z ∧ z * len ≤ 1000000 then (kFill (fun n => some (n * z, z)) ((List.replicate len (i.zero.map kC)).flatten) ps).bind fun cs => (kRows z cs len 0).bind fun rs => (decRows e rs).bind fun l => κ ⟨.one (.o e nid), none, some (.rows e (Nat.blt 0 len) l)⟩ else none
   | none => none
  | _, _ => none
 | .load t a => match szOf G.ti t, kO F ks a with
  | some z, some d => kLoad F ks z d fun v => κ ⟨v, none, none⟩
  | _, _ => none
 | .store t a x => match szOf G.ti t, kO F ks a, kO F ks x with
  | some z, some d, some v => kStore ks z.1 d v κ
  | _, _, _ => none
 | .binOp op ty x y _ => match kO F ks x, kO F ks y with
  | some a, some b => kBin G F ks tag op ty y a b κ
  | _, _ => none
 | .unOp op _ x => match op, kO F ks x with
  | .not, some (.one (.b v)) => κ ⟨.one (.b (!v)), none, none⟩
  | .not, some (.one (.p _ P d)) => κ ⟨.one (.p tag (¬ P) (@instDecidableNot P d)), none, none⟩
  | .not, some (.one (.bv x)) => κ ⟨.one (.p tag (¬ x = true) (@instDecidableNot _ (instDecidableEqBool x true))), none, none⟩
  | .neg, some (.one (.n k x)) => κ ⟨.one (.n k (k.wrap (0 - x))), none, none⟩
  | .xor, some (.one (.n k x)) => κ ⟨.one (.n k (complI k x)), none, none⟩
  | _, _ => none
 | .convert src dst x => match look G.ti src, look G.ti dst, kO F ks x with
  | some s, some d, some (.one (.n k a)) => match s.desc, d.desc with
   | .int k1, .int k2 => if k1 = k then κ ⟨.one (.n k2 (k2.wrap a)), none, none⟩ else none
   | _, _ => none
  | _, _, _ => none
 | .makeFunc fn first cap => match fn, first.toList, (kArgs F ks cap.toList).bind kCaps with
  | .func k, [], some ps => κ ⟨.one (.clo k ps), none, none⟩
  | _, _, _ => none
 | .makeSlice t l c => match G.elem t, kO F ks l, kO F ks c with
  | some (te, e, z), some (.one (.n _ n)), some (.one (.n _ m)) => match look G.ti te with
   | some i => if e.size = z ∧ z ≠ 0 then (capOk n m).bind fun _ => (lenOk n).bind fun _ => (dec noB e (i.zero.map kC)).bind fun x => κ ⟨.one (.o e nid), none, some (.rows e false (List.replicate n.toNat x))⟩ else none
   | none => none
  | _, _, _ => none
 | .slice t x lo hi mx => match mx.isSome && hi.isNone, G.elem t, kO F ks x with
  | false, some (te, e, z), some (.one (.s e' fr s)) => match kBound F ks lo 0, kBound F ks hi ((s.l.length : Nat) : Int), kBound F ks mx ((s.l.length : Nat) : Int) with
   | some i, some j, some m => cutM mx.isSome s.l.length j m ((cutS z s i j).bind fun s' => κ ⟨.one (.s e' fr s'), none, none⟩)
   | _, _, _ => none
  | _, _, _ => none
 | .fieldAddr t x f => match fdOf G.ti t f, kO F ks x with
  | some (off, sz, _), some (.one (.ptr p j)) => if sz = 0 then none else κ ⟨.one (.ptr p (j + off)), none, none⟩
  | some (off, sz, _), some (.one (.pe p i j)) => if sz = 0 then none else κ ⟨.one (.pe p i (j + off)), none, none⟩
  | some (off, sz, _), some (.one (.ip e fr x i y j)) => if sz = 0 then none else κ ⟨.one (.ip e fr x i y (j + off)), none, none⟩
  | _, _ => none
 | .field t x f => match fdOf G.ti t f, kO F ks x with
  | some (off, sz, ag), some (.agg cs) => ((cut cs off (wd (sz, ag))).bind (kOf ag)).bind fun d => κ ⟨d, none, none⟩
  | _, _ => none
 | .indexAddr t x ix => match kO F ks x, kO F ks ix with
  | some (.one (.s e fr s)), some (.one (.n _ i)) => match G.elem t with
   | some (_, _, z) => (atS z s i).bind fun y => κ ⟨.one (.ip e fr s i y 0), none, none⟩
   | none => none
  | some (.one (.o _ p)), some (.one (.n _ i)) => match G.elem t, getB F ks p with
   | some (_, _, z), some (.rows e _ l) => if e.size = z then (atL l i).bind fun _ => κ ⟨.one (.pe p i 0), none, none⟩ else none
   | _, _ => none
  | some (.one (.m _ p)), some (.one (.n _ i)) => match G.elem t, getB F ks p with
   | some (_, _, z), some (.mrows e l) => if e.size = z then (atL l i).bind fun _ => κ ⟨.one (.pe p i 0), none, none⟩ else none
   | _, _ => none
  | some (.one (.ptr p j)), some (.one (.n _ (.ofNat a))) => match look G.ti t with
   | some ti => match ti.desc with
    | .array n e => match look G.ti e with
     | some te => if a < n then κ ⟨.one (.ptr p (j + a * te.size)), none, none⟩ else none
     | none => none
    | _ => none
   | none => none
  | some (.one (.ip e fr s i y j)), some (.one (.n _ (.ofNat a))) => match look G.ti t with
   | some ti => match ti.desc with
    | .array n e' => match look G.ti e' with
     | some te => if a < n then κ ⟨.one (.ip e fr s i y (j + a * te.size)), none, none⟩ else none
     | none => none
    | _ => none
   | none => none
  | _, _ => none
 | .index t x ix => match look G.ti t, kO F ks x, kO F ks ix with
  | some ti, some (.agg cs), some (.one (.n _ (.ofNat a))) => match ti.desc with
   | .array n e => match look G.ti e with
    | some te => if a < n then ((cut cs (a * te.size) (wd (te.size, isAggD te.desc))).bind (kOf (isAggD te.desc))).bind fun d => κ ⟨d, none, none⟩ else none
    | none => none
   | _ => none
  | _, _, _ => none
 | .extract x i => match kO F ks x with
  | some (.tup ds) => (ds[i]?).bind fun d => κ ⟨mkD d, none, none⟩
  | _ => none
 | .call c => match c.callee with
  | .builtin b => (kArgs F ks c.args.toList).bind fun args => kBuiltin G F ks nid c b args κ
  | _ => match kResolve F ks c with
   | some (k, args) => match G.fn k with
    | some en => kCallE F ks nid en args κ
    | none => none
   | none => none
 | _ => none
def substC (tag : Nat) (v : Bool) : KC → KC
 | .p t P d => cond (Nat.beq t tag) (.b v) (.p t P d)
 | c => c
def substD (tag : Nat) (v : Bool) : KD → KD
 | .one c => .one (substC tag v c)
 | .agg cs => .agg (cs.map (substC tag v))
 | .tup ds => .tup ds
def substB (tag : Nat) (v : Bool) : KB → KB
 | .box cs => .box (cs.map (substC tag v))
 | b => b
def subst (tag : Nat) (v : Bool) (ks : KS) : KS := { ks with sl := ks.sl.map fun x => (x.1, substD tag v x.2), bl := ks.bl.map fun x => (x.1, substB tag v x.2) }
def kIf (c : KC) (ks : KS) {R : Type} (κ : Bool → KS → Option R) : Option R :=
 match c with
 | .b v => κ v ks
 | .p tag P d => @ite _ P d (κ true (subst tag true ks)) (κ false (subst tag false ks))
 | .bv x => if x = true then κ true ks else κ false ks
 | _ => none
def normD (tag : Nat) : KD → KD
 | .one (.bv x) => .one (.p tag (x = true) (instDecidableEqBool x true))
 | d => d
def blU (e : KE) (bl : List (Nat × KB)) : List (Nat × KB) :=
 match e.upd with
 | some x => x :: bl
 | none => bl
def blE (e : KE) (nid : Nat) (bl : List (Nat × KB)) : List (Nat × KB) :=
 match e.new with
 | some b => (nid, b) :: blU e bl
 | none => blU e bl
def slE (dst : Option Tmp) (v : KD) (sl : List (Nat × KD)) : List (Nat × KD) :=
 match dst with
 | some d => (d, v) :: sl
 | none => sl
def putE (dst : Option Tmp) (tag nid : Nat) (e : KE) (ks : KS) : KS := { sl := slE dst (normD tag e.v) ks.sl, bl := blE e nid ks.bl, nx := ks.nx + 2 }
def dstOk (F : KF) : Option Tmp → Bool
 | some d => Nat.blt d F.nt
 | none => true
def skipE (dst : Option Tmp) (ks : KS) : KS := { ks with sl := slE dst kUn ks.sl }
def pickK (F : KF) (op : Op) (ks : KS) {R : Type} (κ : Op → KS → Option R) : Option R :=
 match op with
 | .pick c a b => match kO F ks c with
  | some (.one c) => kIf c ks fun t ks => κ (.move (cond t a b)) ks
  | _ => none
 | op => κ op ks
def wantK (F : KF) (ops : List Oper) (o : Oper) (ks : KS) {R : Type} (κ : Bool → KS → Option R) : Option R :=
 cond (dstOk F o.dst) (match o.guard with
 | none => κ true ks
 | some (j, w) => match (ops[j]?).bind fun g => g.dst with
  | some d => match getS F ks d with
   | some (.one c) => kIf c ks fun b ks => κ (b == w) ks
   | some (.tup []) => κ false ks
   | _ => none
  | none => none) none
abbrev CallK := (R : Type) → KF → FuncId → List KD → KS → (KD → KS → Option R) → Option R
def isFollowed (G : KG) (F : KF) (ks : KS) (op : Op) : Option (FuncId × List KD) :=
 match op with
 | .call c => match c.callee with
  | .builtin _ => none
  | _ => match kResolve F ks c with
   | some (k, args) => match look G.fi k with
    | some _ => some (k, args)
    | none => none
   | none => none
 | _ => none
def opsK (G : KG) (call : CallK) (F : KF) (ops : List Oper) {R : Type} (κ : KS → Option R) : List Oper → KS → Option R
 | [], ks => κ ks
 | o :: r, ks => wantK F ops o ks fun w ks => cond w
   (pickK F o.op ks fun op ks => match isFollowed G F ks op with
    | some (k, args) => match o.dst with
     | some d => call R F k args ks fun v ks2 => opsK G call F ops κ r { ks2 with sl := (d, v) :: ks.sl }
     | none => none
    | none => stepK G F ks ks.nx (ks.nx + 1) op fun e => opsK G call F ops κ r (putE o.dst ks.nx (ks.nx + 1) e ks))
   (opsK G call F ops κ r (skipE o.dst ks))
def stillK (G : KG) (F : KF) (ops : List Oper) {R : Type} (κ : KS → Option R) : List Oper → KS → Option R
 | [], ks => κ ks
 | o :: r, ks => wantK F ops o ks fun w ks => cond w
   (pickK F o.op ks fun op ks => stepK G F ks ks.nx (ks.nx + 1) op fun e => match e.upd, e.new with
    | none, none => stillK G F ops κ r (putE o.dst ks.nx (ks.nx + 1) e ks)
    | _, _ => none)
   (stillK G F ops κ r (skipE o.dst ks))
end K
end Ev
end Go.Proofs.Ytlkcneneagifoaa
end
section
namespace Go.Proofs.Ytlkcneneagifoaa
namespace Ev
namespace K
open Go Go.RowKit
set_option linter.unusedVariables false
set_option linter.unusedSimpArgs false
inductive Sh where
 | d (fr : Bool) (t : Ty)
 | o (e : Ty)
 | m (e : Ty)
 | w (e : Ty)
@[reducible] def Sh.T : Sh → Type
 | .d _ t => t.val
 | .o e => List e.val
 | .m e => List e.val
 | .w e => List e.val
@[reducible] def prodT : List Sh → Type
 | [] => Unit
 | [h] => h.T
 | h :: r => h.T × prodT r
inductive BR where
 | sl (i j : Nat)
 | bx (i j : Nat)
structure Pt where
 vs : List (Nat × Bool × List Sh)
 bs : List (Nat × List Sh)
 ws : List (BR × Ty) := []
def wSh (x : BR × Ty) : Sh := .w x.2
def Pt.sh (p : Pt) : List Sh := p.vs.flatMap (·.2.2) ++ (p.bs.flatMap (·.2) ++ p.ws.map wSh)
@[reducible] def XT : List (Ex × Pt) → Type
 | [] => Empty
 | x :: r => prodT x.2.sh ⊕ XT r
structure LoopA where
 join : Bool := false
 key : Nat
 sz : Nat := 0
 keep : List Nat
 head : Pt
 exs : List (Ex × Pt)
def readC (ks : KS) : (h : Sh) → KC → {R : Type} → (h.T → Option R) → Option R
 | .d fr t, c, _, κ => if fr = true ∧ frC c = false then none else (decC noB t c).bind κ
 | .o e, .o _ p, _, κ => match look ks.bl p with
  | some (.rows e' _ l) => (castV (.S e') (.S e) ⟨true, 0, l⟩).bind fun l => κ l.l
  | _ => none
 | .w e, .o _ p, _, κ => match look ks.bl p with
  | some (.rows e' _ l) => (castV (.S e') (.S e) ⟨true, 0, l⟩).bind fun l => κ l.l
  | _ => none
 | .m e, .nil, _, κ => κ []
 | .m e, .m _ p, _, κ => match look ks.bl p with
  | some (.mrows e' l) => (castV (.S e') (.S e) ⟨true, 0, l⟩).bind fun l => κ l.l
  | _ => none
 | .m e, .o _ p, _, κ => match look ks.bl p with
  | some (.rows e' ne l) => (castV (.S e') (.S e) ⟨true, 0, l⟩).bind fun l => cond ne (κ l.l) ((neL l.l).bind fun _ => κ l.l)
  | _ => none
 | _, _, _, _ => none
def readCs (ks : KS) : (hs : List Sh) → List KC → {R : Type} → (prodT hs → Option R) → Option R
 | [], [], _, κ => κ ()
 | [h], [c], _, κ => readC ks h c κ
 | h :: h' :: r, c :: cs, _, κ => readC ks h c fun x => readCs ks (h' :: r) cs fun y => κ (x, y)
 | _, _, _, _ => none
def writeC (q : Nat) : (h : Sh) → h.T → KC × List (Nat × KB)
 | .d _ .B, x => (.bv x, [])
 | .d fr t, x => (match kcells fr t x with
  | c :: _ => c
  | [] => .nil, [])
 | .o e, l => (.o e q, [(q, .rows e false l)])
 | .m e, l => (.m e q, [(q, .mrows e l)])
 | .w e, l => (.o e q, [])
def wC : (h : Sh) → h.T → KB
 | .w e, l => .rows e false l
 | _, _ => .dead
def wCs : (hs : List Sh) → prodT hs → List KB
 | [], _ => []
 | [h], x => [wC h x]
 | h :: h' :: r, x => wC h x.1 :: wCs (h' :: r) x.2
def writeCs : (hs : List Sh) → prodT hs → Nat → List (KC × List (Nat × KB))
 | [], _, _ => []
 | [h], x, q => [writeC q h x]
 | h :: h' :: r, x, q => writeC q h x.1 :: writeCs (h' :: r) x.2 (q + 1)
def cellsV (F : KF) (ks : KS) : List (Nat × Bool × List Sh) → Option (List KC)
 | [] => some []
 | v :: r => match getS F ks v.1 with
  | some (.one c) => if v.2.1 then none else if v.2.2.length = 1 then (cellsV F ks r).map (c :: ·) else none
  | some (.agg cs) => if v.2.1 then if v.2.2.length = cs.length then (cellsV F ks r).map (cs ++ ·) else none else none
  | _ => none
def ptrAt (F : KF) (ks : KS) (i : Nat) : Option Nat :=
 match getS F ks i with
 | some (.one (.ptr p j)) => if j = 0 then some p else none
 | _ => none
def cellsB (F : KF) (ks : KS) : List (Nat × List Sh) → Option (List KC)
 | [] => some []
 | v :: r => match (ptrAt F ks v.1).bind (look ks.bl) with
  | some (.box cs) => if v.2.length = cs.length then (cellsB F ks r).map (cs ++ ·) else none
  | _ => none
def brC (F : KF) (ks : KS) : BR → Option KC
 | .sl i j => match getS F ks i with
  | some (.one c) => some c
  | some (.agg cs) => cs[j]?
  | _ => none
 | .bx i j => match ptrAt F ks i with
  | some p => match lookF ks.bl F.bl p with
   | some (.box cs) => cs[j]?
   | _ => none
  | none => none
def rowId (F : KF) (ks : KS) (w : BR) : Option Nat :=
 match brC F ks w with
 | some (.o _ p) => some p
 | _ => none
def cellsW (F : KF) (ks : KS) : List (BR × Ty) → Option (List KC)
 | [] => some []
 | v :: r => match rowId F ks v.1 with
  | some p => (cellsW F ks r).map (.o v.2 p :: ·)
  | none => none
def cellsP (F : KF) (ks : KS) (p : Pt) : Option (List KC) := (cellsV F ks p.vs).bind fun a => (cellsB F ks p.bs).bind fun b => (cellsW F ks p.ws).map fun c => a ++ (b ++ c)
def ownIds : List KC → List Nat
 | [] => []
 | .o _ p :: r => p :: ownIds r
 | .m _ p :: r => p :: ownIds r
 | _ :: r => ownIds r
def nodupB : List Nat → Bool
 | [] => true
 | a :: r => !(r.any (Nat.beq a)) && nodupB r
def readP (F : KF) (ks : KS) (p : Pt) {R : Type} (κ : prodT p.sh → Option R) : Option R :=
 match cellsP F ks p with
 | some cs => cond (nodupB (ownIds cs)) (readCs ks p.sh cs κ) none
 | none => none
def slotsP : List (Nat × Bool × List Sh) → List KC → List (Nat × KD)
 | [], _ => []
 | v :: r, cs => (v.1, if v.2.1 then .agg (cs.take v.2.2.length) else match cs with
  | c :: _ => .one c
  | [] => kUn) :: slotsP r (cs.drop v.2.2.length)
def boxesP (F : KF) (ks : KS) : List (Nat × List Sh) → List KC → List (Nat × KB)
 | [], _ => []
 | v :: r, cs => match ptrAt F ks v.1 with
  | some p => (p, .box (cs.take v.2.length)) :: boxesP F ks r (cs.drop v.2.length)
  | none => boxesP F ks r (cs.drop v.2.length)
def rowsP (F : KF) (ks : KS) : List (BR × Ty) → List KB → List (Nat × KB)
 | [], _ => []
 | _, [] => []
 | v :: r, b :: bs => match rowId F ks v.1 with
  | some p => (p, b) :: rowsP F ks r bs
  | none => rowsP F ks r bs
def lenV (l : List (Nat × Bool × List Sh)) : Nat := (l.flatMap (·.2.2)).length
def lenB (l : List (Nat × List Sh)) : Nat := (l.flatMap (·.2)).length
def okEnd (F : KF) (ks : KS) : Bool := F.sl.all fun x => (look ks.sl x.1).isNone
def keepS (F : KF) (ks : KS) : List Nat → List (Nat × KD)
 | [] => []
 | i :: r => match look ks.sl i with
  | some d => (i, d) :: keepS F ks r
  | none => keepS F ks r
def boxIds (F : KF) (ks : KS) : List (Nat × List Sh) → List Nat
 | [] => []
 | v :: r => match ptrAt F ks v.1 with
  | some p => p :: boxIds F ks r
  | none => boxIds F ks r
def deadIds (F : KF) (ks : KS) (a : LoopA) (cs : List KC) : List Nat := ownIds cs ++ boxIds F ks a.head.bs
def frameL (F : KF) (ks : KS) (a : LoopA) (cs : List KC) : KF := { nt := F.nt, sl := keepS F ks a.keep ++ F.sl, bl := (deadIds F ks a cs).map (fun p => (p, .dead)) ++ (ks.bl ++ F.bl) }
def stateP (F : KF) (ks : KS) (p : Pt) (x : prodT p.sh) : KS :=
 let w := writeCs p.sh x ks.nx
 let cs := w.map (·.1)
 { sl := slotsP p.vs cs, bl := boxesP F ks p.bs (cs.drop (lenV p.vs)) ++ (rowsP F ks p.ws ((wCs p.sh x).drop (lenV p.vs + lenB p.bs)) ++ w.flatMap (·.2)), nx := ks.nx + p.sh.length }
def exEq : Ex → Ex → Bool
 | .normal, .normal => true
 | .ret, .ret => true
 | .exit a, .exit b => Nat.beq a b
 | _, _ => false
def readX (F : KF) (ks : KS) (e : Ex) : (l : List (Ex × Pt)) → {R : Type} → (XT l → Option R) → Option R
 | [], _, _ => none
 | x :: r, _, κ => cond (exEq e x.1) (readP F ks x.2 fun v => κ (.inl v)) (readX F ks e r fun v => κ (.inr v))
def afterS (F : KF) (ks : KS) (keep dead : List Nat) (p : Pt) (v : prodT p.sh) : KS :=
 let s := stateP F ks p v
 { s with sl := s.sl ++ keepS F ks keep, bl := s.bl ++ (dead.map (fun p => (p, .dead)) ++ ks.bl) }
def afterX (F : KF) (ks : KS) (keep : List Nat) (dead : List Nat) : (l : List (Ex × Pt)) → XT l → {R : Type} → (Ex → KS → Option R) → Option R
 | [], x, _, _ => nomatch x
 | x :: r, v, _, κ => Sum.elim (fun v => κ x.1 (afterS F ks keep dead x.2 v)) (fun v => afterX F ks keep dead r v κ) v
def kNil : KS := ⟨[], [], 0⟩
def bsOk (F0 : KF) (ks : KS) (F : KF) (p : Pt) : Bool := (p.bs.all fun v => (look F.sl v.1).isSome) && p.ws.all fun v => match rowId F0 ks v.1, rowId F kNil v.1 with
 | some a, some b => Nat.beq a b
 | _, _ => false
def firstReg : Code → Option Nat
 | .region id _ _ => some id
 | .seq a b => match firstReg a with
  | some i => some i
  | none => firstReg b
 | .cond _ a b => match firstReg a with
  | some i => some i
  | none => firstReg b
 | .block _ b => firstReg b
 | .loop b => firstReg b
 | .scope b => firstReg b
 | _ => none
def sizeC : Code → Nat
 | .seq a b => sizeC a + sizeC b + 1
 | .cond _ a b => sizeC a + sizeC b + 1
 | .block _ b => sizeC b + 1
 | .loop b => sizeC b + 1
 | .scope b => sizeC b + 1
 | _ => 1
structure TurnA where
 old : List (List BR)
 new : List (Bool × List Nat)
structure AnnF where
 lp : List LoopA := []
 tn : List (Nat × TurnA) := []
def cellId : KC → Option Nat
 | .o _ p => some p
 | .m _ p => some p
 | .ptr p _ => some p
 | _ => none
def brIds (F : KF) (ks : KS) : List BR → Option (List Nat)
 | [] => some []
 | b :: r => match brC F ks b, brIds F ks r with
  | some .nil, l => l
  | some c, some l => match cellId c with
   | some p => some (p :: l)
   | none => none
  | _, _ => none
def brIdss (F : KF) (ks : KS) : List (List BR) → Option (List (List Nat))
 | [] => some []
 | b :: r => match brIds F ks b, brIdss F ks r with
  | some p, some l => some (p :: l)
  | _, _ => none
def maskK (ids : List Nat) (ks : KS) : KS := { ks with bl := ids.map (fun p => (p, .dead)) ++ ks.bl }
def optL : Option Nat → List Nat
 | some p => [p]
 | none => []
def maskIds (Rl O : List (List Nat)) (N : List (Bool × List Nat)) (nw : List (Nat × Nat)) (i : Nat) : List Nat :=
 (Rl.getD i []).flatMap fun j => O.getD j [] ++ ((N.getD j (false, [])).2.flatMap (fun q => optL (look nw q)) ++ cond (N.getD j (false, [])).1 (optL (look nw j)) [])
def ownOf : KC → Option Nat
 | .o _ p => some p
 | .m _ p => some p
 | _ => none
def freeC (ids : List Nat) (c : KC) : Bool :=
 match ownOf c with
 | some p => !(ids.any (Nat.beq p))
 | none => true
def freeD (ids : List Nat) : KD → Bool
 | .one c => freeC ids c
 | .agg cs => cs.all (freeC ids)
 | .tup ts => ts.all fun x => x.2.all (freeC ids)
def freeB (ids : List Nat) : KB → Bool
 | .box cs => cs.all (freeC ids)
 | _ => true
def isM : KB → Bool
 | .mrows _ _ => true
 | _ => false
def oldOk (ks0 ks : KS) (p : Nat) : Bool :=
 match look ks0.bl p, look ks.bl p with
 | some x, some y => (match x with
  | .dead => false
  | _ => isM x == isM y)
 | _, _ => false
def newOkB (ks : KS) (nw : List (Nat × Nat)) (p j : Nat) : Bool :=
 (match look nw j with
  | some q => Nat.beq p q
  | none => false) && (match look ks.bl p with
  | some y => !isM y
  | none => false)
def updOk (ks0 ks : KS) (nw : List (Nat × Nat)) (p : Nat) : List Nat → List Nat → Bool
 | [q], [] => Nat.beq p q && oldOk ks0 ks p
 | [], [j] => newOkB ks nw p j
 | _, _ => false
def effOk (ks0 ks : KS) (O : List (List Nat)) (N : List (Bool × List Nat)) (nw : List (Nat × Nat)) (i : Nat) (ids : List Nat) (e : KE) : Bool :=
 freeD ids e.v && (match e.upd with
  | none => (O.getD i []).isEmpty && (N.getD i (false, [])).2.isEmpty
  | some (p, b) => freeB ids b && updOk ks0 ks nw p (O.getD i []) (N.getD i (false, [])).2) && (match e.new with
  | none => !(N.getD i (false, [])).1
  | some b => (N.getD i (false, [])).1 && freeB ids b && !isM b)
def nwE (e : KE) (i nid : Nat) (nw : List (Nat × Nat)) : List (Nat × Nat) :=
 match e.new with
 | some _ => (i, nid) :: nw
 | none => nw
def quietI (O : List (List Nat)) (N : List (Bool × List Nat)) (i : Nat) : Bool := (O.getD i []).isEmpty && (N.getD i (false, [])).2.isEmpty && !(N.getD i (false, [])).1
def turnK (G : KG) (F : KF) (ops : List Oper) (Rl O : List (List Nat)) (N : List (Bool × List Nat)) (ks0 : KS) {R : Type} (κ : KS → Option R) : Nat → List (Nat × Nat) → List Oper → KS → Option R
 | _, _, [], ks => κ ks
 | i, nw, o :: r, ks => wantK F ops o ks fun w ks => cond w
   (pickK F o.op ks fun op ks => stepK G F (maskK (maskIds Rl O N nw i) ks) ks.nx (ks.nx + 1) op fun e =>
    cond (effOk ks0 ks O N nw i (maskIds Rl O N nw i) e) (turnK G F ops Rl O N ks0 κ (i + 1) (nwE e i (ks.nx + 1) nw) r (putE o.dst ks.nx (ks.nx + 1) e ks)) none)
   (cond (quietI O N i) (turnK G F ops Rl O N ks0 κ (i + 1) nw r (skipE o.dst ks)) none)
def disjB (a b : List Nat) : Bool := a.all fun x => !(b.any (Nat.beq x))
def djB : List (List Nat) → List (List Nat) → List (List Nat) → Bool
 | o :: os, r :: rs, O => (r.all fun j => disjB o (O.getD j [])) && djB os rs O
 | _, _, _ => true
def oldsOk (ks : KS) (O : List (List Nat)) : Bool := O.all fun l => l.all fun p => match look ks.bl p with
 | some .dead => false
 | some _ => true
 | none => false
noncomputable def codeK (G : KG) (A : AnnF) (call : CallK) : Code → (R : Type) → KF → KS → (Ex → KS → Option R) → Option R
 | .skip, _, F, ks, κ => κ .normal ks
 | .region id ops draw, R, F, ks, κ => cond draw
   (cond (drawOkQ ops) (match look A.tn id with
    | none => stillK G F ops.toList (κ .normal) ops.toList ks
    | some T => match brIdss F ks T.old with
     | some O => cond (newOk ops T.new && djB O (openTo ops) O && oldsOk ks O) (turnK G F ops.toList (openTo ops) O T.new ks (κ .normal) 0 [] ops.toList ks) none
     | none => none) (match cutAt ops with
    | some m => cond (drawOkP ops) (stillK G F ops.toList (opsK G call F ops.toList (κ .normal) (ops.toList.drop m)) (ops.toList.take m) ks) none
    | none => none))
   (opsK G call F ops.toList (κ .normal) ops.toList ks)
 | .seq a b, R, F, ks, κ => match A.lp.find? fun z => z.join && (some z.key == firstReg a && Nat.beq z.sz (sizeC a)) with
  | none => codeK G A call a R F ks fun e ks => match e with
   | .normal => codeK G A call b R F ks κ
   | e => κ e ks
  | some z => match cellsP F ks z.head, okEnd F ks with
   | some cs, true => cond (bsOk F ks (frameL F ks z cs) z.head && z.exs.all fun x => bsOk F ks (frameL F ks z cs) x.2) (readP F ks z.head fun x0 =>
    let F' := frameL F ks z cs
    (codeK G A call a (XT z.exs) F' (stateP F ks z.head x0) fun e ks2 => cond (okEnd F' ks2) (readX F' ks2 e z.exs some) none).bind fun y => afterX F ks z.keep (deadIds F ks z cs) z.exs y fun e ks => match e with
     | .normal => codeK G A call b R F ks κ
     | e => κ e ks) none
   | _, _ => none
 | .cond c a b, R, F, ks, κ => match kO F ks c with
  | some (.one c) => kIf c ks fun t ks => cond t (codeK G A call a R F ks κ) (codeK G A call b R F ks κ)
  | _ => none
 | .block id b, R, F, ks, κ => codeK G A call b R F ks fun e ks => κ (cond (exEq e (.exit id)) .normal e) ks
 | .loop b, R, F, ks, κ => match A.lp.find? fun a => !a.join && some a.key == firstReg b with
  | none => none
  | some a => match cellsP F ks a.head, okEnd F ks with
   | some cs, true => cond (bsOk F ks (frameL F ks a cs) a.head && a.exs.all fun x => bsOk F ks (frameL F ks a cs) x.2 && !exEq x.1 .normal) (readP F ks a.head fun x0 =>
    let F' := frameL F ks a cs
    (loopO (fun x => codeK G A call b (prodT a.head.sh ⊕ XT a.exs) F' (stateP F ks a.head x) fun e ks2 => cond (okEnd F' ks2) (match e with
     | .normal => readP F' ks2 a.head fun y => some (.inl y)
     | e => readX F' ks2 e a.exs fun y => some (.inr y)) none) x0).bind fun y => afterX F ks a.keep (deadIds F ks a cs) a.exs y κ) none
   | _, _ => none
 | .exit id, _, F, ks, κ => κ (.exit id) ks
 | .ret, _, F, ks, κ => κ .ret ks
 | .label _, _, F, ks, κ => κ .normal ks
 | .scope b, R, F, ks, κ => codeK G A call b R F ks κ
 | _, _, _, _, _ => none
def numS : Nat → List KD → List (Nat × KD)
 | _, [] => []
 | i, d :: r => (i, d) :: numS (i + 1) r
def tupK : List KD → Option KD
 | [d] => some d
 | ds => (tups ds).map .tup
where
 tups : List KD → Option (List (Bool × List KC))
  | [] => some []
  | .one c :: r => (tups r).map ((false, [c]) :: ·)
  | .agg cs :: r => (tups r).map ((true, cs) :: ·)
  | _ => none
def resK (G : KG) (F : KF) (ks : KS) : List ResultVar → {R : Type} → (List KD → Option R) → Option R
 | [], _, κ => κ []
 | .tmp t :: r, _, κ => (getS F ks t).bind fun d => resK G F ks r fun l => κ (d :: l)
 | .cell a ty :: r, _, κ => match szOf G.ti ty, getS F ks a with
  | some z, some d => kLoad F ks z d fun v => resK G F ks r fun l => κ (v :: l)
  | _, _ => none
def isRet : Ex → Bool
 | .exit _ => false
 | _ => true
abbrev AnnK := List (FuncId × AnnF)
def annOf (A : AnnK) (k : FuncId) : AnnF :=
 match look A k with
 | some l => l
 | none => {}
noncomputable def callK (G : KG) (A : AnnK) : Nat → CallK
 | 0, _, _, _, _, _, _ => none
 | n + 1, R, F, k, args, ks, κ => match look G.fi k with
  | some f => if args.length ≤ f.nt then codeK G (annOf A k) (callK G A n) f.body R { F with sl := [], nt := f.nt } { ks with sl := numS 0 args } fun e ks2 => cond (isRet e) (resK G { F with sl := [], nt := f.nt } ks2 f.results fun ds => (tupK ds).bind fun d => κ d ks2) none else none
  | none => none
def frD : KD → Bool
 | .one c => frC c
 | .agg cs => cs.all frC
 | .tup _ => false
def oneOwn : List KD → Bool
 | [.one (.o _ _)] => true
 | [.one (.m _ _)] => true
 | _ => false
def endOwn (B : Nat → Option KB) (e : Ty) : List KD → Option (List e.val)
 | [.one (.o _ p)] => match B p with
  | some (.rows e' _ l) => if e.plain then (castV (.S e') (.S e) ⟨true, 0, l⟩).map (·.l) else none
  | _ => none
 | _ => none
def endMown (B : Nat → Option KB) (e : Ty) : List KD → Option (List e.val)
 | [.one .nil] => some []
 | [.one (.m _ p)] => match B p with
  | some (.mrows e' l) => if e.plain then (castV (.S e') (.S e) ⟨true, 0, l⟩).map (·.l) else none
  | _ => none
 | [.one (.o _ p)] => match B p with
  | some (.rows e' ne l) => if e.plain && ne then (castV (.S e') (.S e) ⟨true, 0, l⟩).map (·.l) else none
  | _ => none
 | _ => none
def endGown (B : Nat → Option KB) (e : Ty) : List KD → Option (Sl e.val)
 | [.one .nil] => some ⟨false, 0, []⟩
 | [.one (.m _ p)] => match B p with
  | some (.mrows e' l) => if e.plain then (castV (.S e') (.S e) ⟨true, 0, l⟩).map (fun s => mo e.size s.l) else none
  | _ => none
 | [.one (.o _ p)] => match B p with
  | some (.rows e' ne l) => if e.plain then (castV (.S e') (.S e) ⟨true, 0, l⟩).map (fun s => ⟨true, e.size, s.l⟩) else none
  | _ => none
 | _ => none
def endK (B : Nat → Option KB) : (o : OutK) → List KD → Option o.val
 | .data fr ts, ds => if oneOwn ds || (fr && !(ds.all frD)) then none else decDs B ts ds
 | .own e, ds => endOwn B e ds
 | .mown e, ds => endMown B e ds
 | .gown e, ds => endGown B e ds
def argsK (ts : List TyD) (x : vals ts) : List (Nat × KD) := numS 0 ((kdsOf false ts x).map mkD)
noncomputable def funK (G : KG) (A : AnnK) (f : FI) (k : FuncId) (n : Nat) (ins : List TyD) (out : OutK) (x : vals ins) : Option out.val :=
 codeK G (annOf A k) (callK G A n) f.body out.val { nt := f.nt } { sl := argsK ins x, bl := [], nx := 0 } fun e ks => cond (isRet e) (resK G { nt := f.nt } ks f.results fun ds => endK (getB { nt := f.nt } ks) out ds) none
end K
end Ev
end Go.Proofs.Ytlkcneneagifoaa
end
