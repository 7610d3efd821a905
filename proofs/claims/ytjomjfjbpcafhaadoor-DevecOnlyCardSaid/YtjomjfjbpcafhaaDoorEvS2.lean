/- What each operation does, out of its arguments' values. No program is named here. -/
import Derived.Test.YtjomjfjbpcafhaaDoorEvS1
namespace Go.Proofs.YtjomjfjbpcafhaaDoor
namespace Ev
open Go Go.RowKit
set_option linter.unusedVariables false
set_option linter.unusedSimpArgs false

section
variable {E : Env} {y : Nat → YldP} {n nt : Nat} {f : Nat → D} {L : BL}
theorem q_move {x : Operand} {v : D} (hx : ov nt f x = some v) : PS E n nt f L (.move x) v := fun h nid hb => by
  rw [s_move, ov_eq, hx]; rfl
theorem q_assign {x : Operand} {v : D} (hx : ov nt f x = some v) : PS E n nt f L (.assign x) v := fun h nid hb => by
  rw [s_assign, ov_eq, hx]; rfl
theorem q_pickT {c a b : Operand} {fr : Bool} {v : D} (hc : ov nt f c = some (.one (.p fr (.v (.bool true))))) (hx : ov nt f a = some v) : PS E n nt f L (.pick c a b) v := fun h nid hb => by
  rw [s_pick, ov_eq, hc, ov_eq, hx]; rfl
theorem q_pickF {c a b : Operand} {fr : Bool} {v : D} (hc : ov nt f c = some (.one (.p fr (.v (.bool false))))) (hx : ov nt f b = some v) : PS E n nt f L (.pick c a b) v := fun h nid hb => by
  rw [s_pick, ov_eq, hc, ov_eq (x := b), hx]; rfl
theorem q_bin {op : BinOp} {ty sh : TypeId} {x y : Operand} {fa fb : Bool} {ka kb : IntKind} {a b : Int} {v : Value} (hx : ov nt f x = some (.one (.p fa (.v (.int ka a))))) (hy : ov nt f y = some (.one (.p fb (.v (.int kb b)))))
    (hp : pureOf E.P (do eqGuard op ty x y (.int ka a) (.int kb b); binOp op ty (.int ka a) (.int kb b)) = some v) (h1 : one1 v = true) : PS E n nt f L (.binOp op ty x y sh) (mk v) := fun h nid hb => by
  rw [s_bin, ov_eq, hx, ov_eq, hy]
  refine Eq.trans (b := kBin2 E.P E.ti op ty x y (.one (.p fa (.v (.int ka a)))) (.one (.p fb (.v (.int kb b))))) rfl ?_
  rw [kB_int, hp]
  show mkO v = _
  unfold mkO; rw [if_pos h1]
theorem kB_bool {P : Program} {ti : TypeId → Option TI} {op : BinOp} {ty : TypeId} {x y : Operand} {fr fr' : Bool} {a b : Bool} :
    kBin2 P ti op ty x y (.one (.p fr (.v (.bool a)))) (.one (.p fr' (.v (.bool b)))) = (pureOf P (do eqGuard op ty x y (.bool a) (.bool b); binOp op ty (.bool a) (.bool b))).bind mkO := rfl
theorem q_binB {op : BinOp} {ty sh : TypeId} {x y : Operand} {fa fb : Bool} {a b : Bool} {v : Value} (hx : ov nt f x = some (.one (.p fa (.v (.bool a))))) (hy : ov nt f y = some (.one (.p fb (.v (.bool b)))))
    (hp : pureOf E.P (do eqGuard op ty x y (.bool a) (.bool b); binOp op ty (.bool a) (.bool b)) = some v) (h1 : one1 v = true) : PS E n nt f L (.binOp op ty x y sh) (mk v) := fun h nid hb => by
  rw [s_bin, ov_eq, hx, ov_eq, hy]
  refine Eq.trans (b := kBin2 E.P E.ti op ty x y (.one (.p fa (.v (.bool a)))) (.one (.p fb (.v (.bool b))))) rfl ?_
  rw [kB_bool, hp]
  show mkO v = _
  unfold mkO; rw [if_pos h1]
theorem kB_agg {P : Program} {ti : TypeId → Option TI} {op : BinOp} {ty : TypeId} {x y : Operand} {a b : List C} : kBin2 P ti op ty x y (.agg a) (.agg b) = (plain (.agg a)).bind fun va => (plain (.agg b)).bind fun vb => (pureOf P (do eqGuard op ty x y va vb; binOp op ty va vb)).bind mkO := rfl
theorem q_binA {op : BinOp} {ty sh : TypeId} {x y : Operand} {a b : List C} {va vb v : Value} (hx : ov nt f x = some (.agg a)) (hy : ov nt f y = some (.agg b)) (ha : plain (.agg a) = some va) (hb' : plain (.agg b) = some vb)
    (hp : pureOf E.P (do eqGuard op ty x y va vb; binOp op ty va vb) = some v) (h1 : one1 v = true) : PS E n nt f L (.binOp op ty x y sh) (mk v) := fun h nid hb => by
  rw [s_bin, ov_eq, hx, ov_eq, hy]
  refine Eq.trans (b := kBin2 E.P E.ti op ty x y (.agg a) (.agg b)) rfl ?_
  rw [kB_agg, ha, hb']
  simp only [Option.bind_some]
  rw [hp]
  show mkO v = _
  unfold mkO; rw [if_pos h1]
theorem q_not {ty : TypeId} {x : Operand} {fr b : Bool} (hx : ov nt f x = some (.one (.p fr (.v (.bool b))))) : PS E n nt f L (.unOp .not ty x) (bD (!b)) := fun h nid hb => by
  show ((opndG (slots (tab nt f)) x).bind fun d => (plain d).bind fun v => (pureOf E.P (Op.unary .not v)).bind mkO) = _
  rw [ov_eq, hx]; rfl
theorem q_neg {ty : TypeId} {x : Operand} {fr : Bool} {k : IntKind} {a : Int} (hx : ov nt f x = some (.one (.p fr (.v (.int k a))))) : PS E n nt f L (.unOp .neg ty x) (iD k (k.wrap (0 - a))) := fun h nid hb => by
  show ((opndG (slots (tab nt f)) x).bind fun d => (plain d).bind fun v => (pureOf E.P (Op.unary .neg v)).bind mkO) = _
  rw [ov_eq, hx]; rfl
theorem q_conv {src dst : TypeId} {x : Operand} {fr : Bool} {k : IntKind} {a : Int} {v : Value} (hx : ov nt f x = some (.one (.p fr (.v (.int k a))))) (hp : pureOf E.P (Go.convert src dst (.int k a)) = some v) (h1 : one1 v = true) : PS E n nt f L (.convert src dst x) (mk v) := fun h nid hb => by
  show ((opndG (slots (tab nt f)) x).bind fun d => (plain d).bind fun v => match v with
    | .int .. => (pureOf E.P (Go.convert src dst v)).bind mkO
    | _ => none) = _
  rw [ov_eq, hx]
  show (pureOf E.P (Go.convert src dst (.int k a))).bind mkO = _
  rw [hp]
  show mkO v = _
  unfold mkO; rw [if_pos h1]
theorem q_fieldP {ty : TypeId} {x : Operand} {m k i j off sz : Nat} {ag : Bool} (hx : ov nt f x = some (.one (.ptr k i j))) (ht : fieldAt E.ti ty m = some (off, sz, ag)) (hz : Nat.beq sz 0 = false) : PS E n nt f L (.fieldAddr ty x m) (.one (.ptr k i (j + off))) := fun h nid hb => by
  rw [s_field, ov_eq, hx, ht]
  show (if sz = 0 then none else _) = _
  rw [if_neg (Nat.ne_of_beq_eq_false hz)]
theorem q_fieldI {ty : TypeId} {x : Operand} {m i j off sz s : Nat} {fr : Bool} {l : List (List T)} {ag : Bool} (hx : ov nt f x = some (.one (.iptr fr s l i j))) (ht : fieldAt E.ti ty m = some (off, sz, ag)) (hz : Nat.beq sz 0 = false) : PS E n nt f L (.fieldAddr ty x m) (.one (.iptr fr s l i (j + off))) := fun h nid hb => by
  rw [s_field, ov_eq, hx, ht]
  show (if sz = 0 then none else _) = _
  rw [if_neg (Nat.ne_of_beq_eq_false hz)]
theorem q_fieldV {ty : TypeId} {x : Operand} {m off sz : Nat} {cs c2 : List C} {ag : Bool} {v : D} (hx : ov nt f x = some (.agg cs)) (ht : fieldAt E.ti ty m = some (off, sz, ag)) (hc : cut cs off (cond ag sz 1) = some c2) (hv : ofCells ag c2 = some v) : PS E n nt f L (.field ty x m) v := fun h nid hb => by
  show ((E.ti ty).bind fun t => (fieldOf t m).bind fun fd => (E.ti fd.type).bind fun ft => (opndG (slots (tab nt f)) x).bind fun d => match d with
    | .agg cs => (cut cs fd.offset (if isAggD ft.desc then ft.size else 1)).bind fun c => (ofCells (isAggD ft.desc) c).bind fun v => some (⟨v, []⟩ : Eff)
    | _ => none) = _
  unfold fieldAt at ht
  simp only [Option.bind_eq_some_iff, Option.some.injEq, Prod.mk.injEq] at ht
  obtain ⟨t, h1, fd, h2, ft, h3, rfl, rfl, rfl⟩ := ht
  rw [h1, ov_eq, hx]
  simp only [Option.bind_some, h2, h3]
  have hc' : cut cs fd.offset (if isAggD ft.desc then ft.size else 1) = some c2 := by
    rw [← hc]; cases isAggD ft.desc <;> rfl
  rw [hc']
  simp only [Option.bind_some, hv]
theorem cond_if {α : Type} (b : Bool) (x y : α) : (if b = true then x else y) = cond b x y := by cases b <;> rfl
/-- A load out of a block. -/
theorem q_loadP {ty : TypeId} {x : Operand} {k i j sz bz : Nat} {ag : Bool} {es : List (List C)} {e cs : List C} {v : D} (p : Nat) (hx : ov nt f x = some (.one (.ptr k i j))) (hz : sizeAt E.ti ty = some (sz, ag)) (hp : L[p]? = some [(k, bz, es)]) (he : es[i]? = some e) (hc : cut e j (cond ag sz 1) = some cs) (hv : ofCells ag cs = some v) : PS E n nt f L (.load ty x) v := fun h nid hb => by
  rw [s_load, ov_eq, hx, hz]
  show kOut (kOf ag (kCut j (if ag then sz else 1) (kRow i (getBlk h k)))) = _
  rw [hb.get hp, cond_if]
  show kOut (kOf ag (kCut j (cond ag sz 1) es[i]?)) = _
  rw [he]
  show kOut (kOf ag (cut e j (cond ag sz 1))) = _
  rw [hc]
  show kOut (ofCells ag cs) = _
  rw [hv]; rfl
/-- A load out of data. -/
theorem q_loadI {ty : TypeId} {x : Operand} {i j sz s : Nat} {fr ag : Bool} {l : List (List T)} {e : List T} {cs : List C} {v : D} (hx : ov nt f x = some (.one (.iptr fr s l i j))) (hz : sizeAt E.ti ty = some (sz, ag)) (he : l[i]? = some e) (hc : cut (e.map (pC fr)) j (cond ag sz 1) = some cs) (hv : ofCells ag cs = some v) : PS E n nt f L (.load ty x) v := fun h nid hb => by
  rw [s_load, ov_eq, hx, hz]
  show kOut (kOf ag (kCut j (if ag then sz else 1) (kIn fr l[i]?))) = _
  rw [he, cond_if]
  show kOut (kOf ag (cut (e.map (pC fr)) j (cond ag sz 1))) = _
  rw [hc]
  show kOut (ofCells ag cs) = _
  rw [hv]; rfl
/-- A store into a block. -/
theorem q_store {ty : TypeId} {a x : Operand} {k i j sz bz : Nat} {ag : Bool} {es es' : List (List C)} {e e' cs : List C} {v : D} (p : Nat) (ha : ov nt f a = some (.one (.ptr k i j))) (hx : ov nt f x = some v) (hd : dcells v = some cs) (hz : sizeAt E.ti ty = some (sz, ag)) (hs : Nat.beq cs.length sz = true) (hp : L[p]? = some [(k, bz, es)]) (he : es[i]? = some e) (ht : patch e j cs = some e') (hes : es.set i e' = es') : PW E n nt f L (.store ty a x) undefD p k bz es' := ⟨⟨_, hp⟩, fun h nid hb => by
  rw [s_store, ov_eq, ha, ov_eq, hx, hz]
  show kPut k i j sz (dcells v) (getBlk h k) = _
  rw [hd, hb.get hp]
  show (if cs.length = sz then kPut2 k i bz es (kPatch j cs es[i]?) else none) = _
  rw [if_pos (Nat.eq_of_beq_eq_true hs), he]
  show kPut2 k i bz es (patch e j cs) = _
  rw [ht]
  subst hes
  rfl⟩
theorem q_alloc {ty : TypeId} {t : TI} {row : List C} {sz : Nat} (ht : E.ti ty = some t) (hr : zrow t = row) (hs : t.size = sz) : PN E n nt f L (.alloc ty) (fun k => .one (.ptr k 0 0)) sz [row] := fun h nid hb => by
  show ((E.ti ty).bind fun t => some (⟨.one (.ptr nid 0 0), [(nid, .own t.size [zrow t])]⟩ : Eff)) = _
  rw [ht]; subst hr hs; rfl
theorem q_box {ty : TypeId} {x : Operand} {t : TI} {d : D} {cs : List C} {sz : Nat} (ht : E.ti ty = some t) (hx : ov nt f x = some d) (hc : dcells d = some cs) (hs : cs.length = sz) : PN E n nt f L (.box ty x) (fun k => .one (.ptr k 0 0)) sz [cs] := fun h nid hb => by
  show ((E.ti ty).bind fun t => (opndG (slots (tab nt f)) x).bind fun d => (dcells d).bind fun cs => some (⟨.one (.ptr nid 0 0), [(nid, .own cs.length [cs])]⟩ : Eff)) = _
  rw [ht, ov_eq, hx]
  simp only [Option.bind_some, hc]
  subst hs; rfl
def partsOf (nt : Nat) (f : Nat → D) (l : List (Nat × Operand)) : Option (List (Nat × D)) := l.mapM fun ((i, x) : Nat × Operand) => (ov nt f x).map fun d => (i, d)
theorem q_build {ty : TypeId} {parts : Array (Nat × Operand)} {t : TI} {ps : List (Nat × D)} {pl : Nat → Option (Nat × Nat)} {cs : List C} (ht : E.ti ty = some t) (hps : partsOf nt f parts.toList = some ps) (hpl : places E.ti t = some pl) (hf : fill pl (zrow t) ps = some cs) : PS E n nt f L (.build ty parts) (.agg cs) := fun h nid hb => by
  show ((E.ti ty).bind fun t => (parts.toList.mapM fun ((i, x) : Nat × Operand) => (opndG (slots (tab nt f)) x).map fun d => (i, d)).bind fun ps => (places E.ti t).bind fun pl => (fill pl (zrow t) ps).bind fun cs => some (⟨.agg cs, []⟩ : Eff)) = _
  rw [ht, ov_fun]
  simp only [Option.bind_some]
  have h1 : (parts.toList.mapM fun ((i, x) : Nat × Operand) => (ov nt f x).map fun d => (i, d)) = some ps := hps
  simp only [h1, Option.bind_some, hpl, hf]
theorem elemAt_some {ti : TypeId → Option TI} {ty z : Nat} (h : elemAt ti ty = some z) : ∃ t e te, ti ty = some t ∧ elemOf t = some e ∧ ti e = some te ∧ te.size = z := by
  unfold elemAt at h
  simp only [Option.bind_eq_some_iff, Option.some.injEq] at h
  obtain ⟨t, h1, e, h2, te, h3, h4⟩ := h
  exact ⟨t, e, te, h1, h2, h3, h4⟩
theorem q_bslice {ty ety : TypeId} {len z : Nat} {parts : Array (Nat × Operand)} {t te : TI} {ps : List (Nat × D)} {cs : List C} {es : List (List C)} (ht : E.ti ty = some t) (he : elemOf t = some ety) (hte : E.ti ety = some te) (hz : te.size = z) (hps : partsOf nt f parts.toList = some ps) (hf : fill (fun i => some (i * z, z)) (zflat te len) ps = some cs) (hr : rowsOf z cs len = some es) (hl : Nat.ble (len * z) 16777216 = true) : PN E n nt f L (.buildSlice ty len parts) (fun k => .one (.own k 0 len)) z es := fun h nid hb => by
  show ((E.ti ty).bind fun t => (elemOf t).bind fun x => (E.ti x).bind fun e => (parts.toList.mapM fun ((i, x) : Nat × Operand) => (opndG (slots (tab nt f)) x).map fun d => (i, d)).bind fun ps => (fill (fun i => some (i * e.size, e.size)) (zflat e len) ps).bind fun cs => (rowsOf e.size cs len).bind fun es => if len * e.size ≤ 2 ^ 24 then some (⟨.one (.own nid 0 len), [(nid, .own e.size es)]⟩ : Eff) else none) = _
  subst hz
  rw [ht, ov_fun]
  have h1 : (parts.toList.mapM fun ((i, x) : Nat × Operand) => (ov nt f x).map fun d => (i, d)) = some ps := hps
  simp only [Option.bind_some, he, hte, h1, hf, hr]
  rw [if_pos (Nat.le_of_ble_eq_true hl)]
theorem q_ext {x : Operand} {i : Nat} {ds : List D} {v : D} (hx : ov nt f x = some (.tup ds)) (hi : ds[i]? = some v) : PS E n nt f L (.extract x i) v := fun h nid hb => by
  show ((opndG (slots (tab nt f)) x).bind fun d => match d with
    | .tup ds => (ds[i]?).bind fun v => some (⟨v, []⟩ : Eff)
    | _ => none) = _
  rw [ov_eq, hx]
  show (ds[i]?).bind _ = _
  rw [hi]; rfl

/-! Slices that are data. -/
theorem map_get {α β : Type} {r : α → β} {l : List α} {i : Nat} {x : α} (h : l[i]? = some x) : (l.map r)[i]? = some (r x) := by rw [List.getElem?_map, h]; rfl
theorem get_lt {α : Type} {l : List α} {i : Nat} {x : α} (h : l[i]? = some x) : i < l.length := (List.getElem?_eq_some_iff.1 h).1
theorem map_set {α β : Type} {r : α → β} {l : List α} {i : Nat} {x : α} : (l.map r).set i (r x) = (l.set i x).map r := (List.map_set).symm
theorem q_ixS {α : Type} {r : α → List T} {ty : TypeId} {x ix : Operand} {fr fb nn : Bool} {sz : Nat} {l : List α} {kb : IntKind} {i : Int} {y : α} (hx : ov nt f x = some (.one (.p fr (.s nn sz (l.map r))))) (hi : ov nt f ix = some (.one (.p fb (.v (.int kb i))))) (h0 : 0 ≤ i) (hy : l[i.toNat]? = some y) (hz : elemAt E.ti ty = some sz) : PS E n nt f L (.indexAddr ty x ix) (.one (.iptr fr sz (l.map r) i.toNat 0)) := fun h nid hb => by
  rw [s_index, ov_eq, hx, ov_eq, hi]
  show kIx E.ti ty h _ (asNat (.one (.p fb (.v (.int kb i))))) = _
  rw [asNat_nonneg _ _ _ h0]
  refine Eq.trans (b := kIx2 E.ti ty h i.toNat (.one (.p fr (.s nn sz (l.map r))))) rfl ?_
  rw [kI_s, hz]
  show (if i.toNat < (l.map r).length ∧ sz = sz then _ else _) = _
  rw [if_pos ⟨by rw [List.length_map]; exact get_lt hy, rfl⟩]
theorem q_ixO {α : Type} {r : α → List C} {ty : TypeId} {x ix : Operand} {fb : Bool} {k sz : Nat} {l : List α} {kb : IntKind} {i : Int} {y : α} (p : Nat) (hx : ov nt f x = some (.one (.own k 0 l.length))) (hi : ov nt f ix = some (.one (.p fb (.v (.int kb i))))) (h0 : 0 ≤ i) (hy : l[i.toNat]? = some y) (hp : L[p]? = some [(k, sz, l.map r)]) (hz : elemAt E.ti ty = some sz) : PS E n nt f L (.indexAddr ty x ix) (.one (.ptr k i.toNat 0)) := fun h nid hb => by
  rw [s_index, ov_eq, hx, ov_eq, hi]
  show kIx E.ti ty h _ (asNat (.one (.p fb (.v (.int kb i))))) = _
  rw [asNat_nonneg _ _ _ h0]
  refine Eq.trans (b := kIx2 E.ti ty h i.toNat (.one (.own k 0 l.length))) rfl ?_
  rw [kI_o, hz, hb.get hp]
  show (if i.toNat < l.length ∧ sz = sz then _ else _) = _
  rw [if_pos ⟨get_lt hy, rfl⟩, Nat.zero_add]
theorem lenT {t : TypeId} {E : Env} {e : TypeId} {ti : TI} (h : E.ti t = some ti) (h2 : ti.desc = .slice e) : True := trivial
theorem q_lenG {c : Call} {a : Operand} {ty e : TypeId} {t : TI} {d : D} {m : Nat} (hc : c.callee = .builtin .len) (ha : c.args.toList = [a]) (hty : c.argTypes[0]? = some ty) (ht : E.ti ty = some t) (hd : t.desc = .slice e) (hx : ov nt f a = some d) (hl : lenD d = some m) : PS E n nt f L (.call c) (iD .i64 m) := fun h nid hb => by
  have h1 : isCall (.call c) = none := by unfold isCall; simp only [hc]
  rw [s_call, h1]
  unfold sem opOf
  simp only [hc, hty, ht, ha, ov_fun, Option.bind_eq_bind, Option.bind_some, List.mapM_cons, List.mapM_nil, hx, Option.pure_def, hd, hl]
  rfl
theorem lenD_s {α : Type} {r : α → List T} {fr nn : Bool} {sz : Nat} {l : List α} : lenD (.one (.p fr (.s nn sz (l.map r)))) = some l.length := by
  show some (l.map r).length = _
  rw [List.length_map]
theorem q_lenS {α : Type} {r : α → List T} {c : Call} {a : Operand} {ty e : TypeId} {t : TI} {fr nn : Bool} {sz : Nat} {l : List α} (hx : ov nt f a = some (.one (.p fr (.s nn sz (l.map r))))) (ht : E.ti ty = some t) (hd : t.desc = .slice e) (hc : c.callee = .builtin .len) (ha : c.args.toList = [a]) (hty : c.argTypes[0]? = some ty) : PS E n nt f L (.call c) (iD .i64 l.length) := q_lenG hc ha hty ht hd hx lenD_s
theorem q_lenO {c : Call} {a : Operand} {ty e : TypeId} {t : TI} {k m : Nat} (hx : ov nt f a = some (.one (.own k 0 m))) (ht : E.ti ty = some t) (hd : t.desc = .slice e) (hc : c.callee = .builtin .len) (ha : c.args.toList = [a]) (hty : c.argTypes[0]? = some ty) : PS E n nt f L (.call c) (iD .i64 m) := q_lenG hc ha hty ht hd hx rfl

/-! What is appended. -/
def Elems (L : BL) (x : D) (xs : List (List C)) : Prop := ∀ h, HB h L → elems h x = some xs
theorem el_own {k sz m : Nat} {es : List (List C)} (p : Nat) (hp : L[p]? = some [(k, sz, es)]) (hm : Nat.beq m es.length = true) : Elems L (.one (.own k 0 m)) es := fun h hb => by
  have hm' := Nat.eq_of_beq_eq_true hm
  show ((getBlk h k).bind fun x => cut x.2 0 m) = _
  rw [hb.get hp]
  show cut es 0 m = _
  unfold cut
  rw [if_pos (by omega), hm']; simp
theorem el_ownM {α : Type} {r : α → List C} {k sz : Nat} {l : List α} (p : Nat) (hp : L[p]? = some [(k, sz, l.map r)]) : Elems L (.one (.own k 0 l.length)) (l.map r) := fun h hb => by
  show ((getBlk h k).bind fun x => cut x.2 0 l.length) = _
  rw [hb.get hp]
  show cut (l.map r) 0 l.length = _
  unfold cut
  rw [if_pos (by simp), List.drop_zero, List.take_of_length_le (by simp)]
theorem el_dat {α : Type} {r : α → List T} {fr nn : Bool} {sz : Nat} {l : List α} (hr : ∀ x, (r x).map (pC fr) = rowC r x) : Elems L (.one (.p fr (.s nn sz (l.map r)))) (l.map (rowC r)) := fun h hb => by
  show some ((l.map r).map (·.map (pC fr))) = _
  rw [List.map_map]
  congr 1
  exact List.map_congr_left fun x _ => hr x
theorem q_app0 {c : Call} {a x : Operand} {ty ty1 z e1 : TypeId} {t1 : TI} {fr : Bool} {bz : Nat} {d : D} {xs : List (List C)} (ha : ov nt f a = some (.one (.p fr (.s false bz [])))) (hx : ov nt f x = some d) (hxs : Elems L d xs) (hne : ∃ y ys, xs = y :: ys) (hb : xs.length ≤ bound) (hall : xs.all (·.length == z) = true) (hz : elemAt E.ti ty = some z) (ht1 : E.ti ty1 = some t1) (he1 : elemOf t1 = some e1)
    (hc : c.callee = .builtin .append) (hargs : c.args.toList = [a, x]) (hty : c.argTypes[0]? = some ty) (hty1 : c.argTypes[1]? = some ty1) : PN E n nt f L (.call c) (fun k => .one (.own k 0 xs.length)) z xs := fun h nid hh => by
  obtain ⟨t, e, te, g1, g2, g3, g4⟩ := elemAt_some hz
  have h1 : isCall (.call c) = none := by unfold isCall; simp only [hc]
  rw [s_call, h1]
  unfold sem opOf
  simp only [hc, hty, g1, hargs, ov_fun, Option.bind_eq_bind, Option.bind_some, List.mapM_cons, List.mapM_nil, ha, hx, Option.pure_def, g2, g3, hty1, ht1, he1, g4]
  unfold Ev.append
  simp only [hxs h hh, Option.bind_eq_bind, Option.bind_some]
  obtain ⟨y, ys, rfl⟩ := hne
  rw [if_neg (by simp), if_neg (by simp), if_pos hb, if_pos hall]
theorem q_appN {c : Call} {a x : Operand} {ty ty1 z e1 : TypeId} {t1 : TI} {fr : Bool} {bz : Nat} {d : D} (ha : ov nt f a = some (.one (.p fr (.s false bz [])))) (hx : ov nt f x = some d) (hxs : Elems L d []) (hz : elemAt E.ti ty = some z) (ht1 : E.ti ty1 = some t1) (he1 : elemOf t1 = some e1)
    (hc : c.callee = .builtin .append) (hargs : c.args.toList = [a, x]) (hty : c.argTypes[0]? = some ty) (hty1 : c.argTypes[1]? = some ty1) : PS E n nt f L (.call c) (.one (.p fr (.s false bz []))) := fun h nid hh => by
  obtain ⟨t, e, te, g1, g2, g3, g4⟩ := elemAt_some hz
  have h1 : isCall (.call c) = none := by unfold isCall; simp only [hc]
  rw [s_call, h1]
  unfold sem opOf
  simp only [hc, hty, g1, hargs, ov_fun, Option.bind_eq_bind, Option.bind_some, List.mapM_cons, List.mapM_nil, ha, hx, Option.pure_def, g2, g3, hty1, ht1, he1, g4]
  unfold Ev.append
  simp only [hxs h hh, Option.bind_eq_bind, Option.bind_some]
  rw [if_neg (by simp), if_pos (show ([] : List (List C)).length = 0 from rfl)]
theorem q_app {α : Type} {r : α → List C} {c : Call} {a x : Operand} {ty ty1 z e1 : TypeId} {t1 : TI} {k : Nat} {l m lm : List α} {d : D} {xs : List (List C)} (p : Nat) (ha : ov nt f a = some (.one (.own k 0 l.length))) (hx : ov nt f x = some d) (hxs : Elems L d xs) (hm : xs = m.map r) (hp : L[p]? = some [(k, z, l.map r)]) (hlm : app l m = some lm) (hr : ∀ y, (r y).length = z) (hz : elemAt E.ti ty = some z) (ht1 : E.ti ty1 = some t1) (he1 : elemOf t1 = some e1)
    (hc : c.callee = .builtin .append) (hargs : c.args.toList = [a, x]) (hty : c.argTypes[0]? = some ty) (hty1 : c.argTypes[1]? = some ty1) (hz0 : Nat.beq z 0 = false := by rfl) : PA E n nt f L (.call c) (fun k' => .one (.own k' 0 lm.length)) p k z (lm.map r) := ⟨⟨_, hp⟩, fun h nid hh => by
  obtain ⟨t, e, te, g1, g2, g3, g4⟩ := elemAt_some hz
  obtain ⟨hb, rfl⟩ := app_some hlm
  have h1 : isCall (.call c) = none := by unfold isCall; simp only [hc]
  rw [s_call, h1]
  unfold sem opOf
  simp only [hc, hty, g1, hargs, ov_fun, Option.bind_eq_bind, Option.bind_some, List.mapM_cons, List.mapM_nil, ha, hx, Option.pure_def, g2, g3, hty1, ht1, he1, g4]
  unfold Ev.append
  simp only [hxs h hh, Option.bind_eq_bind, Option.bind_some, hh.get hp, hm]
  rw [if_pos ⟨trivial, by simp, by simpa using hb, trivial, by simp [hr], Nat.ne_of_beq_eq_false hz0⟩]
  simp⟩
theorem q_copy {α : Type} {r : α → List C} {c : Call} {a x : Operand} {ty ty1 z e1 : TypeId} {t1 : TI} {k : Nat} {l m lm : List α} {d : D} {xs : List (List C)} (p : Nat) (ha : ov nt f a = some (.one (.own k 0 l.length))) (hx : ov nt f x = some d) (hxs : Elems L d xs) (hm : xs = m.map r) (hp : L[p]? = some [(k, z, l.map r)]) (hlm : cpL l m = some lm) (hr : ∀ y, (r y).length = z) (hz : elemAt E.ti ty = some z) (ht1 : E.ti ty1 = some t1) (he1 : elemOf t1 = some e1)
    (hc : c.callee = .builtin .copy) (hargs : c.args.toList = [a, x]) (hty : c.argTypes[0]? = some ty) (hty1 : c.argTypes[1]? = some ty1) (hz0 : Nat.beq z 0 = false := by rfl) : PW E n nt f L (.call c) (iD .i64 (m.length : Nat)) p k z (lm.map r) := ⟨⟨_, hp⟩, fun h nid hh => by
  obtain ⟨t, e, te, g1, g2, g3, g4⟩ := elemAt_some hz
  obtain ⟨hb, rfl⟩ := cpL_some hlm
  have h1 : isCall (.call c) = none := by unfold isCall; simp only [hc]
  rw [s_call, h1]
  unfold sem opOf
  simp only [hc, hty, g1, hargs, ov_fun, Option.bind_eq_bind, Option.bind_some, List.mapM_cons, List.mapM_nil, ha, hx, Option.pure_def, g2, g3, hty1, ht1, he1, g4]
  unfold copyD
  simp only [hxs h hh, Option.bind_eq_bind, Option.bind_some, hh.get hp, hm]
  have hpt : patch (l.map r) 0 (m.map r) = some ((m ++ l.drop m.length).map r) := by
    unfold patch
    rw [if_pos (by simpa using hb)]
    simp
  rw [hpt]
  simp only [Option.bind_some]
  rw [if_pos ⟨trivial, by simpa using hb, by simp [hr], Nat.ne_of_beq_eq_false hz0⟩]
  simp [iD, mk]⟩
theorem q_copy0 {c : Call} {a x : Operand} {ty ty1 z e1 : TypeId} {t1 : TI} {fr nn : Bool} {bz : Nat} {d : D} {xs : List (List C)} (ha : ov nt f a = some (.one (.p fr (.s nn bz [])))) (hx : ov nt f x = some d) (hxs : Elems L d xs) (hz : elemAt E.ti ty = some z) (ht1 : E.ti ty1 = some t1) (he1 : elemOf t1 = some e1)
    (hc : c.callee = .builtin .copy) (hargs : c.args.toList = [a, x]) (hty : c.argTypes[0]? = some ty) (hty1 : c.argTypes[1]? = some ty1) : PS E n nt f L (.call c) (iD .i64 0) := fun h nid hh => by
  obtain ⟨t, e, te, g1, g2, g3, g4⟩ := elemAt_some hz
  have h1 : isCall (.call c) = none := by unfold isCall; simp only [hc]
  rw [s_call, h1]
  unfold sem opOf
  simp only [hc, hty, g1, hargs, ov_fun, Option.bind_eq_bind, Option.bind_some, List.mapM_cons, List.mapM_nil, ha, hx, Option.pure_def, g2, g3, hty1, ht1, he1, g4]
  unfold copyD
  simp only [hxs h hh, Option.bind_eq_bind, Option.bind_some]
  rfl
theorem q_mkslice {α : Type} {r : α → List C} {ty : Nat} {x y : Operand} {t te : TI} {ety z : Nat} {fa fb : Bool} {ka kb : IntKind} {i : Int} {a : α} (ht : E.ti ty = some t) (he : elemOf t = some ety) (hte : E.ti ety = some te) (hx : ov nt f x = some (.one (.p fa (.v (.int ka i))))) (hy : ov nt f y = some (.one (.p fb (.v (.int kb i))))) (h0 : 0 ≤ i) (hi : i.toNat ≤ bound) (hz : zrow te = r a) (hs : te.size = z) : PN E n nt f L (.makeSlice ty x y) (fun k => .one (.own k 0 (List.replicate i.toNat a).length)) z ((List.replicate i.toNat a).map r) := fun h nid hb => by
  show ((E.ti ty).bind fun t => (elemOf t).bind fun q => (E.ti q).bind fun e => (opndG (slots (tab nt f)) x).bind fun dx => (asNat dx).bind fun n => (opndG (slots (tab nt f)) y).bind fun dy => (asNat dy).bind fun m => if n = m ∧ n ≤ bound then some (⟨.one (.own nid 0 n), [(nid, .own e.size (List.replicate n (zrow e)))]⟩ : Eff) else none) = _
  rw [ht]
  simp only [Option.bind_some, he, hte, ov_eq, hx, hy, asNat_nonneg _ _ _ h0]
  rw [if_pos ⟨trivial, hi⟩, List.length_replicate, List.map_replicate, hz, hs]

/-! Views. -/
def Vw (L : BL) (ds : List D) (vs : List (Bool × TD)) : Prop := ∀ h, HB h L → ds.mapM (viewD h) = some vs
theorem vw_nil : Vw L [] [] := fun h hb => rfl
theorem vw_cons {d : D} {ds : List D} {v : Bool × TD} {vs : List (Bool × TD)} (h1 : ∀ h, HB h L → viewD h d = some v) (h2 : Vw L ds vs) : Vw L (d :: ds) (v :: vs) := fun h hb => by
  rw [List.mapM_cons, h1 h hb, h2 h hb]; rfl
def VwC (L : BL) (cs : List C) (vs : List (Bool × T)) : Prop := ∀ h, HB h L → ∀ m, cs.mapM (view h (m + 2)) = some vs
theorem vc_nil : VwC L [] [] := fun h hb m => rfl
theorem vc_cons {c : C} {cs : List C} {v : Bool × T} {vs : List (Bool × T)} (h1 : ∀ h, HB h L → ∀ m, view h (m + 2) c = some v) (h2 : VwC L cs vs) : VwC L (c :: cs) (v :: vs) := fun h hb m => by
  rw [List.mapM_cons, h1 h hb m, h2 h hb m]; rfl
theorem vc_v {x : Value} : ∀ h, HB h L → ∀ m, view h (m + 2) (.p true (.v x)) = some (true, .v x) := fun h hb m => rfl
theorem vc_s {fr nn : Bool} {sz : Nat} {l : List (List T)} : ∀ h, HB h L → ∀ m, view h (m + 2) (.p fr (.s nn sz l)) = some (fr, .s nn sz l) := fun h hb m => rfl
theorem mapM_all {α β γ : Type} {r : α → List β} {q : α → List γ} {g : β → Option (Bool × γ)} (hq : ∀ x, (r x).mapM g = some ((q x).map fun t => (true, t))) : ∀ l : List α, ((l.map r).mapM fun e => e.mapM g) = some ((l.map q).map fun e => e.map fun t => (true, t))
  | [] => rfl
  | x :: l => by
    rw [List.map_cons, List.mapM_cons, hq x, mapM_all hq l]; rfl
theorem vc_own {α : Type} {r : α → List T} {k sz : Nat} {l : List α} (p : Nat) (hp : L[p]? = some [(k, sz, l.map (rowC r))]) (hr : ∀ x h m, (rowC r x).mapM (view h (m + 1)) = some ((r x).map fun t => (true, t))) : ∀ h, HB h L → ∀ m, view h (m + 2) (.own k 0 l.length) = some (true, .s true sz (l.map r)) := fun h hb m => by
  have hc : cut (l.map (rowC r)) 0 l.length = some (l.map (rowC r)) := by
    unfold cut; rw [if_pos (by simp), List.drop_zero, List.take_of_length_le (by simp)]
  have e1 : view h (m + 2) (.own k 0 l.length) = (getBlk h k).bind fun x => (cut x.2 0 l.length).bind fun es => (es.mapM fun e : List C => e.mapM (view h (m + 1))).bind fun q => some (q.all (fun e => e.all (·.1)), T.s true x.1 (q.map (fun e => e.map (·.2)))) := rfl
  rw [e1, hb.get hp]
  simp only [Option.bind_some, hc]
  rw [mapM_all (q := r) fun x => hr x h m]
  simp only [Option.bind_some, List.map_map]
  congr 2
  · rw [List.all_eq_true]; intro x hx; simp only [List.mem_map] at hx; obtain ⟨y, _, rfl⟩ := hx; rw [List.all_eq_true]; intro z hz; simp only [Function.comp, List.mem_map] at hz; obtain ⟨w, _, rfl⟩ := hz; rfl
  · congr 1
    refine List.map_congr_left fun x hx => ?_
    simp [Function.comp_def]
theorem vd_one {c : C} {b : Bool} {t : T} (h1 : ∀ h, HB h L → ∀ m, view h (m + 2) c = some (b, t)) : ∀ h, HB h L → viewD h (.one c) = some (b, .one t) := fun h hb => by
  show (view h 6 c).bind _ = _
  rw [h1 h hb 4]; rfl
theorem vd_agg {cs : List C} {vs : List (Bool × T)} (h1 : VwC L cs vs) : ∀ h, HB h L → viewD h (.agg cs) = some (vs.all (·.1), .agg (vs.map (·.2))) := fun h hb => by
  show (cs.mapM (view h 6)).bind _ = _
  rw [h1 h hb 4]; rfl

/-! Calls. -/
def RunsX (E : Env) (n : Nat) (k : FuncId) (vs : List TD) (rs : List TD) : Prop := ∃ fr : Bool, RunsP E n k vs (cond fr .fresh .any, rs)
theorem call_step {c : Call} {k : FuncId} {args : List D} {vs : List (Bool × TD)} {r : Kind × List TD} {e : Nat → Eff} (hc : isCall (.call c) = some c) (hr : resolveD c (ov nt f) = some (k, args)) (hv : Vw L args vs) (hk : cpR E n k (vs.map (·.2)) = some r)
    (he : ∀ nid, (match r.1 with
      | .own => match r.2 with
        | [.one (.s true sz l)] => some ({ v := .one (.own nid 0 l.length), upd := [(nid, .own sz (l.map (·.map (pC true))))] } : Eff)
        | _ => none
      | .fresh => some { v := tupD (r.2.map (unview true)) }
      | .any => if args.any ownedD then none else some { v := tupD (r.2.map (unview (vs.all (·.1)))) }) = some (e nid)) : ∀ (h : Heap) (nid : Nat), HB h L → stepG E (cpR E n) none nid (.call c) (slots (tab nt f)) h = some (e nid) := fun h nid hb => by
  rw [s_call, hc]
  show pcall (cpR E n) nid c (slots (tab nt f)) h = _
  unfold pcall
  rw [ov_fun, hr]
  simp only [Option.bind_eq_bind, Option.bind_some, hv h hb, hk]
  exact he nid
theorem q_callF {c : Call} {k : FuncId} {args : List D} {vs : List (Bool × TD)} {vs2 rs : List TD} {v : D} (hk : RunsP E n k vs2 (.fresh, rs)) (hc : isCall (.call c) = some c) (hr : resolveD c (ov nt f) = some (k, args)) (hv : Vw L args vs) (h2 : vs.map (·.2) = vs2) (hrv : tupD (rs.map (unview true)) = v) : PS E n nt f L (.call c) v := fun h nid hb => by
  subst hrv h2
  exact call_step (e := fun _ => ⟨_, []⟩) hc hr hv (cpR_eq hk) (fun _ => rfl) h nid hb
theorem q_callX {c : Call} {k : FuncId} {args : List D} {vs : List (Bool × TD)} {vs2 rs : List TD} {v : Bool → D} (hk : RunsX E n k vs2 rs) (hc : isCall (.call c) = some c) (hr : resolveD c (ov nt f) = some (k, args)) (hv : Vw L args vs) (h2 : vs.map (·.2) = vs2) (ho : args.any ownedD = false) (hrv : ∀ fr, tupD (rs.map (unview fr)) = v fr) : ∃ fr, PS E n nt f L (.call c) (v fr) := by
  obtain ⟨fr, hk⟩ := hk
  cases fr with
  | true => exact ⟨true, q_callF hk hc hr hv h2 (hrv true)⟩
  | false =>
    subst h2
    refine ⟨vs.all (·.1), fun h nid hb => ?_⟩
    rw [← hrv]
    refine call_step (e := fun _ => ⟨_, []⟩) hc hr hv (cpR_eq hk) (fun _ => ?_) h nid hb
    show (if args.any ownedD = true then none else _) = _
    rw [ho]; rfl
theorem q_callO {α : Type} {r : α → List T} {c : Call} {k : FuncId} {args : List D} {vs : List (Bool × TD)} {vs2 : List TD} {sz : Nat} {l : List α} (hk : RunsP E n k vs2 (.own, [.one (.s true sz (l.map r))])) (hc : isCall (.call c) = some c) (hr : resolveD c (ov nt f) = some (k, args)) (hv : Vw L args vs) (h2 : vs.map (·.2) = vs2) : PN E n nt f L (.call c) (fun k' => .one (.own k' 0 l.length)) sz (l.map (rowC r)) := fun h nid hb => by
  subst h2
  have := call_step (e := fun nid => ⟨.one (.own nid 0 (l.map r).length), [(nid, .own sz ((l.map r).map (·.map (pC true))))]⟩) hc hr hv (cpR_eq hk) (fun _ => rfl) h nid hb
  rw [List.length_map, List.map_map] at this
  exact this

/-! What a function hands back. -/
def endX (E : Env) (rv : List ResultVar) (rs : List TD) : Ex → St → Prop := fun e s => ∃ fr : Bool, endQ E rv (cond fr .fresh .any, rs) e s
def ResL (E : Env) (nt : Nat) (f : Nat → D) (L : BL) (rv : List ResultVar) (ds : List D) : Prop := ∀ h, HB h L → rv.mapM (resultD E { t := tab nt f, h := h }) = some ds
theorem res_nil : ResL E nt f L [] [] := fun h hb => rfl
theorem res_tmp {t : Tmp} {d : D} {rv : List ResultVar} {ds : List D} (ht : ov nt f (.tmp t) = some d) (h : ResL E nt f L rv ds) : ResL E nt f L (.tmp t :: rv) (d :: ds) := fun H hb => by
  have : (tab nt f)[t]? = some d := (ov_eq nt f (.tmp t)).trans ht
  rw [List.mapM_cons, h H hb]
  show ((tab nt f)[t]?).bind _ = _
  rw [this]; rfl
theorem res_cell {t : Tmp} {ty : TypeId} {k i j sz bz : Nat} {ag : Bool} {es : List (List C)} {e cs : List C} {d : D} {rv : List ResultVar} {ds : List D} (p : Nat) (ht : ov nt f (.tmp t) = some (.one (.ptr k i j))) (hz : sizeAt E.ti ty = some (sz, ag)) (hp : L[p]? = some [(k, bz, es)]) (he : es[i]? = some e) (hc : cut e j (cond ag sz 1) = some cs) (hv : ofCells ag cs = some d) (h : ResL E nt f L rv ds) : ResL E nt f L (.cell t ty :: rv) (d :: ds) := fun H hb => by
  have h1 : (tab nt f)[t]? = some (.one (.ptr k i j)) := (ov_eq nt f (.tmp t)).trans ht
  unfold sizeAt at hz
  simp only [Option.bind_eq_some_iff, Option.some.injEq, Prod.mk.injEq] at hz
  obtain ⟨ti, g1, rfl, rfl⟩ := hz
  rw [List.mapM_cons, h H hb]
  show (((E.ti ty).bind fun t' => ((tab nt f)[t]?).bind fun d => load H (isAggD t'.desc) (if isAggD t'.desc then t'.size else 1) d).bind _) = _
  rw [g1, h1]
  simp only [Option.bind_some, load, hb.get hp, Option.bind_eq_bind, he, cond_if, hc, hv]
  rfl
theorem E_endF {rv : List ResultVar} {ds : List D} {vs : List (Bool × TD)} {e : Ex} {rs : List TD} (he : e = .normal ∨ e = .ret) (hr : ResL E nt f L rv ds) (hv : Vw L ds vs) (ho : ∀ h, HB h L → ownRes h ds = false) (hf : vs.all (·.1) = true) (hrs : vs.map (·.2) = rs) : EndL nt (endQ E rv (.fresh, rs)) e f L := fun H hb => by
  have key : holdsQ (fun l : Kind × List TD => l = (.fresh, rs)) ((rv.mapM (resultD E { t := tab nt f, h := H })).bind fun rs => (rs.mapM (viewD H)).map fun l => (if ownRes H rs then .own else if l.all (·.1) then .fresh else .any, l.map (·.2))) := by
    rw [hr H hb]
    simp only [Option.bind_some, hv H hb, Option.map_some, ho H hb, hf, hrs]
    rfl
  rcases he with rfl | rfl <;> exact key
theorem E_endX {rv : List ResultVar} {ds : List D} {vs : List (Bool × TD)} {e : Ex} {rs : List TD} (he : e = .normal ∨ e = .ret) (hr : ResL E nt f L rv ds) (hv : Vw L ds vs) (ho : ∀ h, HB h L → ownRes h ds = false) (hrs : vs.map (·.2) = rs) : EndL nt (endX E rv rs) e f L := fun H hb => by
  have key : holdsQ (fun l : Kind × List TD => l = (cond (vs.all (·.1)) .fresh .any, rs)) ((rv.mapM (resultD E { t := tab nt f, h := H })).bind fun rs => (rs.mapM (viewD H)).map fun l => (if ownRes H rs then .own else if l.all (·.1) then .fresh else .any, l.map (·.2))) := by
    rw [hr H hb]
    simp only [Option.bind_some, hv H hb, Option.map_some, ho H hb, hrs]
    show (_, _) = (_, _)
    cases vs.all (·.1) <;> rfl
  refine ⟨vs.all (·.1), ?_⟩
  rcases he with rfl | rfl <;> exact key
theorem E_endO {α : Type} {r : α → List T} {rv : List ResultVar} {k sz : Nat} {l : List α} {e : Ex} (p : Nat) (he : e = .normal ∨ e = .ret) (hr : ResL E nt f L rv [.one (.own k 0 l.length)]) (hp : L[p]? = some [(k, sz, l.map (rowC r))]) (hr2 : ∀ x h m, (rowC r x).mapM (view h (m + 1)) = some ((r x).map fun t => (true, t))) (hpl : ∀ x, (rowC r x).all plainB = true) : EndL nt (endQ E rv (.own, [.one (.s true sz (l.map r))])) e f L := fun H hb => by
  have ho : ownRes H [.one (.own k 0 l.length)] = true := by
    simp [ownRes, hb.get hp, hpl]
  have key : holdsQ (fun l' : Kind × List TD => l' = (.own, [.one (.s true sz (l.map r))])) ((rv.mapM (resultD E { t := tab nt f, h := H })).bind fun rs => (rs.mapM (viewD H)).map fun l => (if ownRes H rs then .own else if l.all (·.1) then .fresh else .any, l.map (·.2))) := by
    rw [hr H hb]
    have hv : [D.one (.own k 0 l.length)].mapM (viewD H) = some [(true, .one (.s true sz (l.map r)))] := vw_cons (vd_one (vc_own p hp hr2)) vw_nil H hb
    simp only [Option.bind_some, hv, Option.map_some, ho]
    rfl
  rcases he with rfl | rfl <;> exact key
theorem own_no2 {d e : D} {ds : List D} {h : Heap} : ownRes h (d :: e :: ds) = false := by
  unfold ownRes
  split
  · rename_i hx; simp at hx
  · rfl
theorem own_agg {cs : List C} {h : Heap} : ownRes h [.agg cs] = false := rfl
theorem own_p {fr : Bool} {t : T} {h : Heap} : ownRes h [.one (.p fr t)] = false := rfl
/-- The slots at a function's beginning. -/
def f0 (vs : List TD) : Nat → D := fun i => (vs.map (unview false)).getD i undefD
theorem fn_F {k : FuncId} {fi : FI} {vs rs : List TD} (ha : E.ax k = none) (hf : E.fn k = some fi) (hl : Nat.ble vs.length fi.nt = true) (h : WpL E nY n fi.nt fi.body (endQ E fi.results (.fresh, rs)) (f0 vs) []) : RunsP E (n + 1) k vs (.fresh, rs) := runs_tab ha hf (Nat.le_of_ble_eq_true hl) (h [] ⟨List.nodup_nil, fun x hx => by simp at hx⟩)
theorem fn_O {k : FuncId} {fi : FI} {vs rs : List TD} (ha : E.ax k = none) (hf : E.fn k = some fi) (hl : Nat.ble vs.length fi.nt = true) (h : WpL E nY n fi.nt fi.body (endQ E fi.results (.own, rs)) (f0 vs) []) : RunsP E (n + 1) k vs (.own, rs) := runs_tab ha hf (Nat.le_of_ble_eq_true hl) (h [] ⟨List.nodup_nil, fun x hx => by simp at hx⟩)
theorem fn_X {k : FuncId} {fi : FI} {vs rs : List TD} (ha : E.ax k = none) (hf : E.fn k = some fi) (hl : Nat.ble vs.length fi.nt = true) (h : WpL E nY n fi.nt fi.body (endX E fi.results rs) (f0 vs) []) : RunsX E (n + 1) k vs rs := by
  obtain ⟨e, s', h1, fr, h2⟩ := h [] ⟨List.nodup_nil, fun x hx => by simp at hx⟩
  exact ⟨fr, runs_tab ha hf (Nat.le_of_ble_eq_true hl) ⟨e, s', h1, h2⟩⟩
theorem RunsP.x {k : FuncId} {vs rs : List TD} (h : RunsP E n k vs (.fresh, rs)) : RunsX E n k vs rs := ⟨true, h⟩
end

/-! Numbers. -/
section
variable (P : Program) (t : TypeId) (x y : Operand) (k : IntKind) {a b : Int}
theorem p_lss_t (h : a < b) : pureOf P (do eqGuard .lss t x y (.int k a) (.int k b); binOp .lss t (.int k a) (.int k b)) = some (.bool true) := by rw [p_lss, decide_eq_true h]
theorem p_lss_f (h : ¬ a < b) : pureOf P (do eqGuard .lss t x y (.int k a) (.int k b); binOp .lss t (.int k a) (.int k b)) = some (.bool false) := by rw [p_lss, decide_eq_false h]
theorem p_leq_t (h : a ≤ b) : pureOf P (do eqGuard .leq t x y (.int k a) (.int k b); binOp .leq t (.int k a) (.int k b)) = some (.bool true) := by rw [p_leq, decide_eq_true h]
theorem p_leq_f (h : ¬ a ≤ b) : pureOf P (do eqGuard .leq t x y (.int k a) (.int k b); binOp .leq t (.int k a) (.int k b)) = some (.bool false) := by rw [p_leq, decide_eq_false h]
theorem p_gtr_t (h : a > b) : pureOf P (do eqGuard .gtr t x y (.int k a) (.int k b); binOp .gtr t (.int k a) (.int k b)) = some (.bool true) := by rw [p_gtr, decide_eq_true h]
theorem p_gtr_f (h : ¬ a > b) : pureOf P (do eqGuard .gtr t x y (.int k a) (.int k b); binOp .gtr t (.int k a) (.int k b)) = some (.bool false) := by rw [p_gtr, decide_eq_false h]
theorem p_geq_t (h : a ≥ b) : pureOf P (do eqGuard .geq t x y (.int k a) (.int k b); binOp .geq t (.int k a) (.int k b)) = some (.bool true) := by rw [p_geq, decide_eq_true h]
theorem p_geq_f (h : ¬ a ≥ b) : pureOf P (do eqGuard .geq t x y (.int k a) (.int k b); binOp .geq t (.int k a) (.int k b)) = some (.bool false) := by rw [p_geq, decide_eq_false h]
theorem p_eql_t (h : a = b) : pureOf P (do eqGuard .eql t x y (.int k a) (.int k b); binOp .eql t (.int k a) (.int k b)) = some (.bool true) := by rw [p_eql, h]; simp
theorem p_eql_f (h : ¬ a = b) : pureOf P (do eqGuard .eql t x y (.int k a) (.int k b); binOp .eql t (.int k a) (.int k b)) = some (.bool false) := by rw [p_eql]; simp [h]
theorem p_neq_t (h : a ≠ b) : pureOf P (do eqGuard .neq t x y (.int k a) (.int k b); binOp .neq t (.int k a) (.int k b)) = some (.bool true) := by rw [p_neq]; simp [h]
theorem p_neq_f (h : ¬ a ≠ b) : pureOf P (do eqGuard .neq t x y (.int k a) (.int k b); binOp .neq t (.int k a) (.int k b)) = some (.bool false) := by rw [p_neq, Classical.not_not.1 h]; simp
end
/-- A slice that is nil until it has an element. -/
def mo {α : Type} (w : Nat) (l : List α) : Sl α :=
  match l with
  | [] => ⟨false, 0, []⟩
  | _ :: _ => ⟨true, w, l⟩
def moC {α : Type} (l : List α) (k : Nat) : C :=
  match l with
  | [] => .p true (.s false 0 [])
  | _ :: _ => .own k 0 l.length
def moL {α : Type} (r : α → List T) (w : Nat) (l : List α) (k : Nat) : List B1 :=
  match l with
  | [] => []
  | _ :: _ => [(k, w, l.map (rowC r))]
theorem mo_l {α : Type} (w : Nat) (l : List α) : (mo w l).l = l := by cases l <;> rfl
/-- A quotient, a remainder, where there is one. -/
def divO (k : IntKind) (a b : Int) : Option Int := if b ≠ 0 then some (k.wrap (a.tdiv b)) else none
def modO (a b : Int) : Option Int := if b ≠ 0 then some (a.tmod b) else none
theorem divO_p {P : Program} {t : TypeId} {x y : Operand} {k : IntKind} {a b z : Int} (h : divO k a b = some z) : pureOf P (do eqGuard .quo t x y (.int k a) (.int k b); binOp .quo t (.int k a) (.int k b)) = some (.int k z) := by
  unfold divO at h
  split at h
  · rename_i hc; rw [← Option.some.inj h]; exact p_quo _ _ _ _ _ _ _ hc
  · simp at h
theorem modO_p {P : Program} {t : TypeId} {x y : Operand} {k : IntKind} {a b z : Int} (h : modO a b = some z) : pureOf P (do eqGuard .rem t x y (.int k a) (.int k b); binOp .rem t (.int k a) (.int k b)) = some (.int k z) := by
  unfold modO at h
  split at h
  · rename_i hc; rw [← Option.some.inj h]; exact p_rem _ _ _ _ _ _ _ hc
  · simp at h
def lenOk (i : Int) : Option Unit := if 0 ≤ i ∧ i.toNat ≤ bound then some () else none
theorem lenOk_some {i : Int} {u : Unit} (h : lenOk i = some u) : 0 ≤ i ∧ i.toNat ≤ bound := by
  unfold lenOk at h
  split at h
  · assumption
  · simp at h

end Ev
end Go.Proofs.YtjomjfjbpcafhaaDoor
