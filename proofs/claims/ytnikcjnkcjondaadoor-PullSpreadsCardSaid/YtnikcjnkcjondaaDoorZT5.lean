/- Texts of a claim, joined. -/
import Derived.Test.YtnikcjnkcjondaaDoorZT4
import Derived.Laws.StructEq
import Derived.Test.YtnikcjnkcjondaaDoorZT0
import Derived.Test.YtnikcjnkcjondaaDoorChecked
import Derived.Test.YtnikcjnkcjondaaDoorRows
import Derived.LaidMore
import Derived.OpenShut
import Derived.Stop.Joined
import Derived.ChangeSlices
set_option linter.unusedVariables false
set_option linter.unusedSimpArgs false
section
namespace Go.Proofs.YtnikcjnkcjondaaDoor
namespace Ev
open Go Go.RowKit
set_option linter.unusedVariables false
set_option linter.unusedSimpArgs false
section
variable {E : Env} {y : Nat → YldP} {n nt : Nat} {f : Nat → D} {L : BL}
theorem q_move {x : Operand} {v : D} (hx : ov nt f x = some v) : PS E n nt f L (.move x) v := fun h nid hb => by
 rw [s_move, ov_eq, hx]; rfl
theorem q_assign {x : Operand} {v : D} (hx : ov nt f x = some v) : PS E n nt f L (.assign x) v := fun h nid hb => by
 rw [s_assign, ov_eq, hx]; rfl
theorem q_pickT {c a b : Operand} {fr : Bool} {v : D} (hc : ov nt f c = some (.one (.p fr (.v (.bool true))))) (hx : ov nt f a = some v) : PS E n nt f L (.pick c a b) v := fun h nid hb => by
 rw [s_pick, ov_eq, hc, ov_eq, hx]; rfl
theorem q_pickF {c a b : Operand} {fr : Bool} {v : D} (hc : ov nt f c = some (.one (.p fr (.v (.bool false))))) (hx : ov nt f b = some v) : PS E n nt f L (.pick c a b) v := fun h nid hb => by
 rw [s_pick, ov_eq, hc, ov_eq (x := b), hx]; rfl
theorem q_bin {op : BinOp} {ty sh : TypeId} {x y : Operand} {fa fb : Bool} {ka kb : IntKind} {a b : Int} {v : Value} (hx : ov nt f x = some (.one (.p fa (.v (.int ka a))))) (hy : ov nt f y = some (.one (.p fb (.v (.int kb b)))))
  (hp : pureOf E.P (do eqGuard op ty x y (.int ka a) (.int kb b); binOp op ty (.int ka a) (.int kb b)) = some v) (h1 : one1 v = true) : PS E n nt f L (.binOp op ty x y sh) (mk v) := fun h nid hb => by
 rw [s_bin, ov_eq, hx, ov_eq, hy]
 refine Eq.trans (b := kBin2 E.P E.ti op ty x y (.one (.p fa (.v (.int ka a)))) (.one (.p fb (.v (.int kb b))))) rfl ?_
 rw [kB_int, hp]
 show mkO v = _
 unfold mkO; rw [if_pos h1]
theorem kB_bool {P : Program} {ti : TypeId → Option TI} {op : BinOp} {ty : TypeId} {x y : Operand} {fr fr' : Bool} {a b : Bool} :
  kBin2 P ti op ty x y (.one (.p fr (.v (.bool a)))) (.one (.p fr' (.v (.bool b)))) = (pureOf P (do eqGuard op ty x y (.bool a) (.bool b); binOp op ty (.bool a) (.bool b))).bind mkO := rfl
theorem q_binB {op : BinOp} {ty sh : TypeId} {x y : Operand} {fa fb : Bool} {a b : Bool} {v : Value} (hx : ov nt f x = some (.one (.p fa (.v (.bool a))))) (hy : ov nt f y = some (.one (.p fb (.v (.bool b)))))
  (hp : pureOf E.P (do eqGuard op ty x y (.bool a) (.bool b); binOp op ty (.bool a) (.bool b)) = some v) (h1 : one1 v = true) : PS E n nt f L (.binOp op ty x y sh) (mk v) := fun h nid hb => by
 rw [s_bin, ov_eq, hx, ov_eq, hy]
 refine Eq.trans (b := kBin2 E.P E.ti op ty x y (.one (.p fa (.v (.bool a)))) (.one (.p fb (.v (.bool b))))) rfl ?_
 rw [kB_bool, hp]
 show mkO v = _
 unfold mkO; rw [if_pos h1]
theorem kB_agg {P : Program} {ti : TypeId → Option TI} {op : BinOp} {ty : TypeId} {x y : Operand} {a b : List C} : kBin2 P ti op ty x y (.agg a) (.agg b) = (plain (.agg a)).bind fun va => (plain (.agg b)).bind fun vb => (pureOf P (do eqGuard op ty x y va vb; binOp op ty va vb)).bind mkO := rfl
theorem q_binA {op : BinOp} {ty sh : TypeId} {x y : Operand} {a b : List C} {va vb v : Value} (hx : ov nt f x = some (.agg a)) (hy : ov nt f y = some (.agg b)) (ha : plain (.agg a) = some va) (hb' : plain (.agg b) = some vb)
  (hp : pureOf E.P (do eqGuard op ty x y va vb; binOp op ty va vb) = some v) (h1 : one1 v = true) : PS E n nt f L (.binOp op ty x y sh) (mk v) := fun h nid hb => by
 rw [s_bin, ov_eq, hx, ov_eq, hy]
 refine Eq.trans (b := kBin2 E.P E.ti op ty x y (.agg a) (.agg b)) rfl ?_
 rw [kB_agg, ha, hb']
 simp only [Option.bind_some]
 rw [hp]
 show mkO v = _
 unfold mkO; rw [if_pos h1]
theorem q_not {ty : TypeId} {x : Operand} {fr b : Bool} (hx : ov nt f x = some (.one (.p fr (.v (.bool b))))) : PS E n nt f L (.unOp .not ty x) (bD (!b)) := fun h nid hb => by
 show ((opndG (slots (tab nt f)) x).bind fun d => (plain d).bind fun v => (pureOf E.P (Op.unary .not v)).bind mkO) = _
 rw [ov_eq, hx]; rfl
theorem q_conv {src dst : TypeId} {x : Operand} {fr : Bool} {k : IntKind} {a : Int} {v : Value} (hx : ov nt f x = some (.one (.p fr (.v (.int k a))))) (hp : pureOf E.P (Go.convert src dst (.int k a)) = some v) (h1 : one1 v = true) : PS E n nt f L (.convert src dst x) (mk v) := fun h nid hb => by
 show ((opndG (slots (tab nt f)) x).bind fun d => (plain d).bind fun v => match v with
  | .int .. => (pureOf E.P (Go.convert src dst v)).bind mkO
  | _ => none) = _
 rw [ov_eq, hx]
 show (pureOf E.P (Go.convert src dst (.int k a))).bind mkO = _
 rw [hp]
 show mkO v = _
 unfold mkO; rw [if_pos h1]
theorem q_fieldP {ty : TypeId} {x : Operand} {m k i j off sz : Nat} {ag : Bool} (hx : ov nt f x = some (.one (.ptr k i j))) (ht : fieldAt E.ti ty m = some (off, sz, ag)) (hz : Nat.beq sz 0 = false) : PS E n nt f L (.fieldAddr ty x m) (.one (.ptr k i (j + off))) := fun h nid hb => by
 rw [s_field, ov_eq, hx, ht]
 show (if sz = 0 then none else _) = _
 rw [if_neg (Nat.ne_of_beq_eq_false hz)]
theorem q_fieldI {ty : TypeId} {x : Operand} {m i j off sz s : Nat} {fr : Bool} {l : List (List T)} {ag : Bool} (hx : ov nt f x = some (.one (.iptr fr s l i j))) (ht : fieldAt E.ti ty m = some (off, sz, ag)) (hz : Nat.beq sz 0 = false) : PS E n nt f L (.fieldAddr ty x m) (.one (.iptr fr s l i (j + off))) := fun h nid hb => by
 rw [s_field, ov_eq, hx, ht]
 show (if sz = 0 then none else _) = _
 rw [if_neg (Nat.ne_of_beq_eq_false hz)]
theorem q_fieldV {ty : TypeId} {x : Operand} {m off sz : Nat} {cs c2 : List C} {ag : Bool} {v : D} (hx : ov nt f x = some (.agg cs)) (ht : fieldAt E.ti ty m = some (off, sz, ag)) (hc : cut cs off (cond ag sz 1) = some c2) (hv : ofCells ag c2 = some v) : PS E n nt f L (.field ty x m) v := fun h nid hb => by
 show ((E.ti ty).bind fun t => (fieldOf t m).bind fun fd => (E.ti fd.type).bind fun ft => (opndG (slots (tab nt f)) x).bind fun d => match d with
  | .agg cs => (cut cs fd.offset (if isAggD ft.desc then ft.size else 1)).bind fun c => (ofCells (isAggD ft.desc) c).bind fun v => some (⟨v, []⟩ : Eff)
  | _ => none) = _
 unfold fieldAt at ht
 simp only [Option.bind_eq_some_iff, Option.some.injEq, Prod.mk.injEq] at ht
 obtain ⟨t, h1, fd, h2, ft, h3, rfl, rfl, rfl⟩ := ht
 rw [h1, ov_eq, hx]
 simp only [Option.bind_some, h2, h3]
 have hc' : cut cs fd.offset (if isAggD ft.desc then ft.size else 1) = some c2 := by
  rw [← hc]; cases isAggD ft.desc <;> rfl
 rw [hc']
 simp only [Option.bind_some, hv]
theorem cond_if {α : Type} (b : Bool) (x y : α) : (if b = true then x else y) = cond b x y := by cases b <;> rfl
theorem q_loadP {ty : TypeId} {x : Operand} {k i j sz bz : Nat} {ag : Bool} {es : List (List C)} {e cs : List C} {v : D} (p : Nat) (hx : ov nt f x = some (.one (.ptr k i j))) (hz : sizeAt E.ti ty = some (sz, ag)) (hp : L[p]? = some [(k, bz, es)]) (he : es[i]? = some e) (hc : cut e j (cond ag sz 1) = some cs) (hv : ofCells ag cs = some v) : PS E n nt f L (.load ty x) v := fun h nid hb => by
 rw [s_load, ov_eq, hx, hz]
 show kOut (kOf ag (kCut j (if ag then sz else 1) (kRow i (getBlk h k)))) = _
 rw [hb.get hp, cond_if]
 show kOut (kOf ag (kCut j (cond ag sz 1) es[i]?)) = _
 rw [he]
 show kOut (kOf ag (cut e j (cond ag sz 1))) = _
 rw [hc]
 show kOut (ofCells ag cs) = _
 rw [hv]; rfl
theorem q_loadI {ty : TypeId} {x : Operand} {i j sz s : Nat} {fr ag : Bool} {l : List (List T)} {e : List T} {cs : List C} {v : D} (hx : ov nt f x = some (.one (.iptr fr s l i j))) (hz : sizeAt E.ti ty = some (sz, ag)) (he : l[i]? = some e) (hc : cut (e.map (pC fr)) j (cond ag sz 1) = some cs) (hv : ofCells ag cs = some v) : PS E n nt f L (.load ty x) v := fun h nid hb => by
 rw [s_load, ov_eq, hx, hz]
 show kOut (kOf ag (kCut j (if ag then sz else 1) (kIn fr l[i]?))) = _
 rw [he, cond_if]
 show kOut (kOf ag (cut (e.map (pC fr)) j (cond ag sz 1))) = _
 rw [hc]
 show kOut (ofCells ag cs) = _
 rw [hv]; rfl
theorem q_store {ty : TypeId} {a x : Operand} {k i j sz bz : Nat} {ag : Bool} {es es' : List (List C)} {e e' cs : List C} {v : D} (p : Nat) (ha : ov nt f a = some (.one (.ptr k i j))) (hx : ov nt f x = some v) (hd : dcells v = some cs) (hz : sizeAt E.ti ty = some (sz, ag)) (hs : Nat.beq cs.length sz = true) (hp : L[p]? = some [(k, bz, es)]) (he : es[i]? = some e) (ht : patch e j cs = some e') (hes : es.set i e' = es') : PW E n nt f L (.store ty a x) undefD p k bz es' := ⟨⟨_, hp⟩, fun h nid hb => by
 rw [s_store, ov_eq, ha, ov_eq, hx, hz]
 show kPut k i j sz (dcells v) (getBlk h k) = _
 rw [hd, hb.get hp]
 show (if cs.length = sz then kPut2 k i bz es (kPatch j cs es[i]?) else none) = _
 rw [if_pos (Nat.eq_of_beq_eq_true hs), he]
 show kPut2 k i bz es (patch e j cs) = _
 rw [ht]
 subst hes
 rfl⟩
theorem q_alloc {ty : TypeId} {t : TI} {row : List C} {sz : Nat} (ht : E.ti ty = some t) (hr : zrow t = row) (hs : t.size = sz) : PN E n nt f L (.alloc ty) (fun k => .one (.ptr k 0 0)) sz [row] := fun h nid hb => by
 show ((E.ti ty).bind fun t => some (⟨.one (.ptr nid 0 0), [(nid, .own t.size [zrow t])]⟩ : Eff)) = _
 rw [ht]; subst hr hs; rfl
theorem q_box {ty : TypeId} {x : Operand} {t : TI} {d : D} {cs : List C} {sz : Nat} (ht : E.ti ty = some t) (hx : ov nt f x = some d) (hc : dcells d = some cs) (hs : cs.length = sz) : PN E n nt f L (.box ty x) (fun k => .one (.ptr k 0 0)) sz [cs] := fun h nid hb => by
 show ((E.ti ty).bind fun t => (opndG (slots (tab nt f)) x).bind fun d => (dcells d).bind fun cs => some (⟨.one (.ptr nid 0 0), [(nid, .own cs.length [cs])]⟩ : Eff)) = _
 rw [ht, ov_eq, hx]
 simp only [Option.bind_some, hc]
 subst hs; rfl
def partsOf (nt : Nat) (f : Nat → D) (l : List (Nat × Operand)) : Option (List (Nat × D)) := l.mapM fun ((i, x) : Nat × Operand) => (ov nt f x).map fun d => (i, d)
theorem q_build {ty : TypeId} {parts : Array (Nat × Operand)} {t : TI} {ps : List (Nat × D)} {pl : Nat → Option (Nat × Nat)} {cs : List C} (ht : E.ti ty = some t) (hps : partsOf nt f parts.toList = some ps) (hpl : places E.ti t = some pl) (hf : fill pl (zrow t) ps = some cs) : PS E n nt f L (.build ty parts) (.agg cs) := fun h nid hb => by
 show ((E.ti ty).bind fun t => (parts.toList.mapM fun ((i, x) : Nat × Operand) => (opndG (slots (tab nt f)) x).map fun d => (i, d)).bind fun ps => (places E.ti t).bind fun pl => (fill pl (zrow t) ps).bind fun cs => some (⟨.agg cs, []⟩ : Eff)) = _
 rw [ht, ov_fun]
 simp only [Option.bind_some]
 have h1 : (parts.toList.mapM fun ((i, x) : Nat × Operand) => (ov nt f x).map fun d => (i, d)) = some ps := hps
 simp only [h1, Option.bind_some, hpl, hf]
theorem elemAt_some {ti : TypeId → Option TI} {ty z : Nat} (h : elemAt ti ty = some z) : ∃ t e te, ti ty = some t ∧ elemOf t = some e ∧ ti e = some te ∧ te.size = z := by
 unfold elemAt at h
 simp only [Option.bind_eq_some_iff, Option.some.injEq] at h
 obtain ⟨t, h1, e, h2, te, h3, h4⟩ := h
 exact ⟨t, e, te, h1, h2, h3, h4⟩
theorem q_bslice {ty ety : TypeId} {len z : Nat} {parts : Array (Nat × Operand)} {t te : TI} {ps : List (Nat × D)} {cs : List C} {es : List (List C)} (ht : E.ti ty = some t) (he : elemOf t = some ety) (hte : E.ti ety = some te) (hz : te.size = z) (hps : partsOf nt f parts.toList = some ps) (hf : fill (fun i => some (i * z, z)) (zflat te len) ps = some cs) (hr : rowsOf z cs len = some es) (hl : Nat.ble (len * z) 16777216 = true) : PN E n nt f L (.buildSlice ty len parts) (fun k => .one (.own k 0 len)) z es := fun h nid hb => by
 show ((E.ti ty).bind fun t => (elemOf t).bind fun x => (E.ti x).bind fun e => (parts.toList.mapM fun ((i, x) : Nat × Operand) => (opndG (slots (tab nt f)) x).map fun d => (i, d)).bind fun ps => (fill (fun i => some (i * e.size, e.size)) (zflat e len) ps).bind fun cs => (rowsOf e.size cs len).bind fun es => if len * e.size ≤ 2 ^ 24 then some (⟨.one (.own nid 0 len), [(nid, .own e.size es)]⟩ : Eff) else none) = _
 subst hz
 rw [ht, ov_fun]
 have h1 : (parts.toList.mapM fun ((i, x) : Nat × Operand) => (ov nt f x).map fun d => (i, d)) = some ps := hps
 simp only [Option.bind_some, he, hte, h1, hf, hr]
 rw [if_pos (Nat.le_of_ble_eq_true hl)]
theorem q_ext {x : Operand} {i : Nat} {ds : List D} {v : D} (hx : ov nt f x = some (.tup ds)) (hi : ds[i]? = some v) : PS E n nt f L (.extract x i) v := fun h nid hb => by
 show ((opndG (slots (tab nt f)) x).bind fun d => match d with
  | .tup ds => (ds[i]?).bind fun v => some (⟨v, []⟩ : Eff)
  | _ => none) = _
 rw [ov_eq, hx]
 show (ds[i]?).bind _ = _
 rw [hi]; rfl
theorem map_get {α β : Type} {r : α → β} {l : List α} {i : Nat} {x : α} (h : l[i]? = some x) : (l.map r)[i]? = some (r x) := by rw [List.getElem?_map, h]; rfl
theorem get_lt {α : Type} {l : List α} {i : Nat} {x : α} (h : l[i]? = some x) : i < l.length := (List.getElem?_eq_some_iff.1 h).1
theorem map_set {α β : Type} {r : α → β} {l : List α} {i : Nat} {x : α} : (l.map r).set i (r x) = (l.set i x).map r := (List.map_set).symm
theorem q_ixS {α : Type} {r : α → List T} {ty : TypeId} {x ix : Operand} {fr fb nn : Bool} {sz : Nat} {l : List α} {kb : IntKind} {i : Int} {y : α} (hx : ov nt f x = some (.one (.p fr (.s nn sz (l.map r))))) (hi : ov nt f ix = some (.one (.p fb (.v (.int kb i))))) (h0 : 0 ≤ i) (hy : l[i.toNat]? = some y) (hz : elemAt E.ti ty = some sz) : PS E n nt f L (.indexAddr ty x ix) (.one (.iptr fr sz (l.map r) i.toNat 0)) := fun h nid hb => by
 rw [s_index, ov_eq, hx, ov_eq, hi]
 show kIx E.ti ty h _ (asNat (.one (.p fb (.v (.int kb i))))) = _
 rw [asNat_nonneg _ _ _ h0]
 refine Eq.trans (b := kIx2 E.ti ty h i.toNat (.one (.p fr (.s nn sz (l.map r))))) rfl ?_
 rw [kI_s, hz]
 show (if i.toNat < (l.map r).length ∧ sz = sz then _ else _) = _
 rw [if_pos ⟨by rw [List.length_map]; exact get_lt hy, rfl⟩]
theorem q_ixO {α : Type} {r : α → List C} {ty : TypeId} {x ix : Operand} {fb : Bool} {k sz : Nat} {l : List α} {kb : IntKind} {i : Int} {y : α} (p : Nat) (hx : ov nt f x = some (.one (.own k 0 l.length))) (hi : ov nt f ix = some (.one (.p fb (.v (.int kb i))))) (h0 : 0 ≤ i) (hy : l[i.toNat]? = some y) (hp : L[p]? = some [(k, sz, l.map r)]) (hz : elemAt E.ti ty = some sz) : PS E n nt f L (.indexAddr ty x ix) (.one (.ptr k i.toNat 0)) := fun h nid hb => by
 rw [s_index, ov_eq, hx, ov_eq, hi]
 show kIx E.ti ty h _ (asNat (.one (.p fb (.v (.int kb i))))) = _
 rw [asNat_nonneg _ _ _ h0]
 refine Eq.trans (b := kIx2 E.ti ty h i.toNat (.one (.own k 0 l.length))) rfl ?_
 rw [kI_o, hz, hb.get hp]
 show (if i.toNat < l.length ∧ sz = sz then _ else _) = _
 rw [if_pos ⟨get_lt hy, rfl⟩, Nat.zero_add]
theorem q_lenG {c : Call} {a : Operand} {ty e : TypeId} {t : TI} {d : D} {m : Nat} (hc : c.callee = .builtin .len) (ha : c.args.toList = [a]) (hty : c.argTypes[0]? = some ty) (ht : E.ti ty = some t) (hd : t.desc = .slice e) (hx : ov nt f a = some d) (hl : lenD d = some m) : PS E n nt f L (.call c) (iD .i64 m) := fun h nid hb => by
 have h1 : isCall (.call c) = none := by unfold isCall; simp only [hc]
 rw [s_call, h1]
 unfold sem opOf
 simp only [hc, hty, ht, ha, ov_fun, Option.bind_eq_bind, Option.bind_some, List.mapM_cons, List.mapM_nil, hx, Option.pure_def, hd, hl]
 rfl
theorem lenD_s {α : Type} {r : α → List T} {fr nn : Bool} {sz : Nat} {l : List α} : lenD (.one (.p fr (.s nn sz (l.map r)))) = some l.length := by
 show some (l.map r).length = _
 rw [List.length_map]
theorem q_lenS {α : Type} {r : α → List T} {c : Call} {a : Operand} {ty e : TypeId} {t : TI} {fr nn : Bool} {sz : Nat} {l : List α} (hx : ov nt f a = some (.one (.p fr (.s nn sz (l.map r))))) (ht : E.ti ty = some t) (hd : t.desc = .slice e) (hc : c.callee = .builtin .len) (ha : c.args.toList = [a]) (hty : c.argTypes[0]? = some ty) : PS E n nt f L (.call c) (iD .i64 l.length) := q_lenG hc ha hty ht hd hx lenD_s
def Elems (L : BL) (x : D) (xs : List (List C)) : Prop := ∀ h, HB h L → elems h x = some xs
theorem el_ownM {α : Type} {r : α → List C} {k sz : Nat} {l : List α} (p : Nat) (hp : L[p]? = some [(k, sz, l.map r)]) : Elems L (.one (.own k 0 l.length)) (l.map r) := fun h hb => by
 show ((getBlk h k).bind fun x => cut x.2 0 l.length) = _
 rw [hb.get hp]
 show cut (l.map r) 0 l.length = _
 unfold cut
 rw [if_pos (by simp), List.drop_zero, List.take_of_length_le (by simp)]
theorem el_dat {α : Type} {r : α → List T} {fr nn : Bool} {sz : Nat} {l : List α} (hr : ∀ x, (r x).map (pC fr) = rowC r x) : Elems L (.one (.p fr (.s nn sz (l.map r)))) (l.map (rowC r)) := fun h hb => by
 show some ((l.map r).map (·.map (pC fr))) = _
 rw [List.map_map]
 congr 1
 exact List.map_congr_left fun x _ => hr x
theorem q_app0 {c : Call} {a x : Operand} {ty ty1 z e1 : TypeId} {t1 : TI} {fr : Bool} {bz : Nat} {d : D} {xs : List (List C)} (ha : ov nt f a = some (.one (.p fr (.s false bz [])))) (hx : ov nt f x = some d) (hxs : Elems L d xs) (hne : ∃ y ys, xs = y :: ys) (hb : xs.length ≤ bound) (hall : xs.all (·.length == z) = true) (hz : elemAt E.ti ty = some z) (ht1 : E.ti ty1 = some t1) (he1 : elemOf t1 = some e1)
  (hc : c.callee = .builtin .append) (hargs : c.args.toList = [a, x]) (hty : c.argTypes[0]? = some ty) (hty1 : c.argTypes[1]? = some ty1) : PN E n nt f L (.call c) (fun k => .one (.own k 0 xs.length)) z xs := fun h nid hh => by
 obtain ⟨t, e, te, g1, g2, g3, g4⟩ := elemAt_some hz
 have h1 : isCall (.call c) = none := by unfold isCall; simp only [hc]
 rw [s_call, h1]
 unfold sem opOf
 simp only [hc, hty, g1, hargs, ov_fun, Option.bind_eq_bind, Option.bind_some, List.mapM_cons, List.mapM_nil, ha, hx, Option.pure_def, g2, g3, hty1, ht1, he1, g4]
 unfold Ev.append
 simp only [hxs h hh, Option.bind_eq_bind, Option.bind_some]
 obtain ⟨y, ys, rfl⟩ := hne
 rw [if_neg (by simp), if_neg (by simp), if_pos hb, if_pos hall]
theorem q_appN {c : Call} {a x : Operand} {ty ty1 z e1 : TypeId} {t1 : TI} {fr : Bool} {bz : Nat} {d : D} (ha : ov nt f a = some (.one (.p fr (.s false bz [])))) (hx : ov nt f x = some d) (hxs : Elems L d []) (hz : elemAt E.ti ty = some z) (ht1 : E.ti ty1 = some t1) (he1 : elemOf t1 = some e1)
  (hc : c.callee = .builtin .append) (hargs : c.args.toList = [a, x]) (hty : c.argTypes[0]? = some ty) (hty1 : c.argTypes[1]? = some ty1) : PS E n nt f L (.call c) (.one (.p fr (.s false bz []))) := fun h nid hh => by
 obtain ⟨t, e, te, g1, g2, g3, g4⟩ := elemAt_some hz
 have h1 : isCall (.call c) = none := by unfold isCall; simp only [hc]
 rw [s_call, h1]
 unfold sem opOf
 simp only [hc, hty, g1, hargs, ov_fun, Option.bind_eq_bind, Option.bind_some, List.mapM_cons, List.mapM_nil, ha, hx, Option.pure_def, g2, g3, hty1, ht1, he1, g4]
 unfold Ev.append
 simp only [hxs h hh, Option.bind_eq_bind, Option.bind_some]
 rw [if_neg (by simp), if_pos (show ([] : List (List C)).length = 0 from rfl)]
theorem q_app {α : Type} {r : α → List C} {c : Call} {a x : Operand} {ty ty1 z e1 : TypeId} {t1 : TI} {k : Nat} {l m lm : List α} {d : D} {xs : List (List C)} (p : Nat) (ha : ov nt f a = some (.one (.own k 0 l.length))) (hx : ov nt f x = some d) (hxs : Elems L d xs) (hm : xs = m.map r) (hp : L[p]? = some [(k, z, l.map r)]) (hlm : app l m = some lm) (hr : ∀ y, (r y).length = z) (hz : elemAt E.ti ty = some z) (ht1 : E.ti ty1 = some t1) (he1 : elemOf t1 = some e1)
  (hc : c.callee = .builtin .append) (hargs : c.args.toList = [a, x]) (hty : c.argTypes[0]? = some ty) (hty1 : c.argTypes[1]? = some ty1) (hz0 : Nat.beq z 0 = false := by rfl) : PA E n nt f L (.call c) (fun k' => .one (.own k' 0 lm.length)) p k z (lm.map r) := ⟨⟨_, hp⟩, fun h nid hh => by
 obtain ⟨t, e, te, g1, g2, g3, g4⟩ := elemAt_some hz
 obtain ⟨hb, rfl⟩ := app_some hlm
 have h1 : isCall (.call c) = none := by unfold isCall; simp only [hc]
 rw [s_call, h1]
 unfold sem opOf
 simp only [hc, hty, g1, hargs, ov_fun, Option.bind_eq_bind, Option.bind_some, List.mapM_cons, List.mapM_nil, ha, hx, Option.pure_def, g2, g3, hty1, ht1, he1, g4]
 unfold Ev.append
 simp only [hxs h hh, Option.bind_eq_bind, Option.bind_some, hh.get hp, hm]
 rw [if_pos ⟨trivial, by simp, by simpa using hb, trivial, by simp [hr], Nat.ne_of_beq_eq_false hz0⟩]
 simp⟩
theorem q_mkslice {α : Type} {r : α → List C} {ty : Nat} {x y : Operand} {t te : TI} {ety z : Nat} {fa fb : Bool} {ka kb : IntKind} {i : Int} {a : α} (ht : E.ti ty = some t) (he : elemOf t = some ety) (hte : E.ti ety = some te) (hx : ov nt f x = some (.one (.p fa (.v (.int ka i))))) (hy : ov nt f y = some (.one (.p fb (.v (.int kb i))))) (h0 : 0 ≤ i) (hi : i.toNat ≤ bound) (hz : zrow te = r a) (hs : te.size = z) : PN E n nt f L (.makeSlice ty x y) (fun k => .one (.own k 0 (List.replicate i.toNat a).length)) z ((List.replicate i.toNat a).map r) := fun h nid hb => by
 show ((E.ti ty).bind fun t => (elemOf t).bind fun q => (E.ti q).bind fun e => (opndG (slots (tab nt f)) x).bind fun dx => (asNat dx).bind fun n => (opndG (slots (tab nt f)) y).bind fun dy => (asNat dy).bind fun m => if n ≤ m ∧ m ≤ bound then some (⟨.one (.own nid 0 n), [(nid, .own e.size (List.replicate n (zrow e)))]⟩ : Eff) else none) = _
 rw [ht]
 simp only [Option.bind_some, he, hte, ov_eq, hx, hy, asNat_nonneg _ _ _ h0]
 rw [if_pos ⟨Nat.le_refl _, hi⟩, List.length_replicate, List.map_replicate, hz, hs]
def Vw (L : BL) (ds : List D) (vs : List (Bool × TD)) : Prop := ∀ h, HB h L → ds.mapM (viewD h) = some vs
theorem vw_nil : Vw L [] [] := fun h hb => rfl
theorem vw_cons {d : D} {ds : List D} {v : Bool × TD} {vs : List (Bool × TD)} (h1 : ∀ h, HB h L → viewD h d = some v) (h2 : Vw L ds vs) : Vw L (d :: ds) (v :: vs) := fun h hb => by
 rw [List.mapM_cons, h1 h hb, h2 h hb]; rfl
def VwC (L : BL) (cs : List C) (vs : List (Bool × T)) : Prop := ∀ h, HB h L → ∀ m, cs.mapM (view h (m + 2)) = some vs
theorem vc_nil : VwC L [] [] := fun h hb m => rfl
theorem vc_cons {c : C} {cs : List C} {v : Bool × T} {vs : List (Bool × T)} (h1 : ∀ h, HB h L → ∀ m, view h (m + 2) c = some v) (h2 : VwC L cs vs) : VwC L (c :: cs) (v :: vs) := fun h hb m => by
 rw [List.mapM_cons, h1 h hb m, h2 h hb m]; rfl
theorem vc_v {x : Value} : ∀ h, HB h L → ∀ m, view h (m + 2) (.p true (.v x)) = some (true, .v x) := fun h hb m => rfl
theorem vc_s {fr nn : Bool} {sz : Nat} {l : List (List T)} : ∀ h, HB h L → ∀ m, view h (m + 2) (.p fr (.s nn sz l)) = some (fr, .s nn sz l) := fun h hb m => rfl
theorem mapM_all {α β γ : Type} {r : α → List β} {q : α → List γ} {g : β → Option (Bool × γ)} (hq : ∀ x, (r x).mapM g = some ((q x).map fun t => (true, t))) : ∀ l : List α, ((l.map r).mapM fun e => e.mapM g) = some ((l.map q).map fun e => e.map fun t => (true, t))
 | [] => rfl
 | x :: l => by
  rw [List.map_cons, List.mapM_cons, hq x, mapM_all hq l]; rfl
theorem vc_own {α : Type} {r : α → List T} {k sz : Nat} {l : List α} (p : Nat) (hp : L[p]? = some [(k, sz, l.map (rowC r))]) (hr : ∀ x h m, (rowC r x).mapM (view h (m + 1)) = some ((r x).map fun t => (true, t))) : ∀ h, HB h L → ∀ m, view h (m + 2) (.own k 0 l.length) = some (true, .s true sz (l.map r)) := fun h hb m => by
 have hc : cut (l.map (rowC r)) 0 l.length = some (l.map (rowC r)) := by
  unfold cut; rw [if_pos (by simp), List.drop_zero, List.take_of_length_le (by simp)]
 have e1 : view h (m + 2) (.own k 0 l.length) = (getBlk h k).bind fun x => (cut x.2 0 l.length).bind fun es => (es.mapM fun e : List C => e.mapM (view h (m + 1))).bind fun q => some (q.all (fun e => e.all (·.1)), T.s true x.1 (q.map (fun e => e.map (·.2)))) := rfl
 rw [e1, hb.get hp]
 simp only [Option.bind_some, hc]
 rw [mapM_all (q := r) fun x => hr x h m]
 simp only [Option.bind_some, List.map_map]
 congr 2
 ·rw [List.all_eq_true]; intro x hx; simp only [List.mem_map] at hx; obtain ⟨y, _, rfl⟩ := hx; rw [List.all_eq_true]; intro z hz; simp only [Function.comp, List.mem_map] at hz; obtain ⟨w, _, rfl⟩ := hz; rfl
 ·congr 1
  refine List.map_congr_left fun x hx => ?_
  simp [Function.comp_def]
theorem vd_one {c : C} {b : Bool} {t : T} (h1 : ∀ h, HB h L → ∀ m, view h (m + 2) c = some (b, t)) : ∀ h, HB h L → viewD h (.one c) = some (b, .one t) := fun h hb => by
 show (view h 6 c).bind _ = _
 rw [h1 h hb 4]; rfl
theorem vd_agg {cs : List C} {vs : List (Bool × T)} (h1 : VwC L cs vs) : ∀ h, HB h L → viewD h (.agg cs) = some (vs.all (·.1), .agg (vs.map (·.2))) := fun h hb => by
 show (cs.mapM (view h 6)).bind _ = _
 rw [h1 h hb 4]; rfl
def RunsX (E : Env) (n : Nat) (k : FuncId) (vs : List TD) (rs : List TD) : Prop := ∃ fr : Bool, RunsP E n k vs (cond fr .fresh .any, rs)
theorem call_step {c : Call} {k : FuncId} {args : List D} {vs : List (Bool × TD)} {r : Kind × List TD} {e : Nat → Eff} (hc : isCall (.call c) = some c) (hr : resolveD c (ov nt f) = some (k, args)) (hv : Vw L args vs) (hk : cpR E n k (vs.map (·.2)) = some r)
  (he : ∀ nid, (match r.1 with
   | .own => match r.2 with
    | [.one (.s true sz l)] => some ({ v := .one (.own nid 0 l.length), upd := [(nid, .own sz (l.map (·.map (pC true))))] } : Eff)
    | _ => none
   | .fresh => some { v := tupD (r.2.map (unview true)) }
   | .any => if args.any ownedD then none else some { v := tupD (r.2.map (unview (vs.all (·.1)))) }) = some (e nid)) : ∀ (h : Heap) (nid : Nat), HB h L → stepG E (cpR E n) none nid (.call c) (slots (tab nt f)) h = some (e nid) := fun h nid hb => by
 rw [s_call, hc]
 show pcall (cpR E n) nid c (slots (tab nt f)) h = _
 unfold pcall
 rw [ov_fun, hr]
 simp only [Option.bind_eq_bind, Option.bind_some, hv h hb, hk]
 exact he nid
theorem q_callF {c : Call} {k : FuncId} {args : List D} {vs : List (Bool × TD)} {vs2 rs : List TD} {v : D} (hk : RunsP E n k vs2 (.fresh, rs)) (hc : isCall (.call c) = some c) (hr : resolveD c (ov nt f) = some (k, args)) (hv : Vw L args vs) (h2 : vs.map (·.2) = vs2) (hrv : tupD (rs.map (unview true)) = v) : PS E n nt f L (.call c) v := fun h nid hb => by
 subst hrv h2
 exact call_step (e := fun _ => ⟨_, []⟩) hc hr hv (cpR_eq hk) (fun _ => rfl) h nid hb
theorem q_callX {c : Call} {k : FuncId} {args : List D} {vs : List (Bool × TD)} {vs2 rs : List TD} {v : Bool → D} (hk : RunsX E n k vs2 rs) (hc : isCall (.call c) = some c) (hr : resolveD c (ov nt f) = some (k, args)) (hv : Vw L args vs) (h2 : vs.map (·.2) = vs2) (ho : args.any ownedD = false) (hrv : ∀ fr, tupD (rs.map (unview fr)) = v fr) : ∃ fr, PS E n nt f L (.call c) (v fr) := by
 obtain ⟨fr, hk⟩ := hk
 cases fr with
 | true => exact ⟨true, q_callF hk hc hr hv h2 (hrv true)⟩
 | false =>
  subst h2
  refine ⟨vs.all (·.1), fun h nid hb => ?_⟩
  rw [← hrv]
  refine call_step (e := fun _ => ⟨_, []⟩) hc hr hv (cpR_eq hk) (fun _ => ?_) h nid hb
  show (if args.any ownedD = true then none else _) = _
  rw [ho]; rfl
theorem q_callO {α : Type} {r : α → List T} {c : Call} {k : FuncId} {args : List D} {vs : List (Bool × TD)} {vs2 : List TD} {sz : Nat} {l : List α} (hk : RunsP E n k vs2 (.own, [.one (.s true sz (l.map r))])) (hc : isCall (.call c) = some c) (hr : resolveD c (ov nt f) = some (k, args)) (hv : Vw L args vs) (h2 : vs.map (·.2) = vs2) : PN E n nt f L (.call c) (fun k' => .one (.own k' 0 l.length)) sz (l.map (rowC r)) := fun h nid hb => by
 subst h2
 have := call_step (e := fun nid => ⟨.one (.own nid 0 (l.map r).length), [(nid, .own sz ((l.map r).map (·.map (pC true))))]⟩) hc hr hv (cpR_eq hk) (fun _ => rfl) h nid hb
 rw [List.length_map, List.map_map] at this
 exact this
def endX (E : Env) (rv : List ResultVar) (rs : List TD) : Ex → St → Prop := fun e s => ∃ fr : Bool, endQ E rv (cond fr .fresh .any, rs) e s
def ResL (E : Env) (nt : Nat) (f : Nat → D) (L : BL) (rv : List ResultVar) (ds : List D) : Prop := ∀ h, HB h L → rv.mapM (resultD E { t := tab nt f, h := h }) = some ds
theorem res_nil : ResL E nt f L [] [] := fun h hb => rfl
theorem res_tmp {t : Tmp} {d : D} {rv : List ResultVar} {ds : List D} (ht : ov nt f (.tmp t) = some d) (h : ResL E nt f L rv ds) : ResL E nt f L (.tmp t :: rv) (d :: ds) := fun H hb => by
 have : (tab nt f)[t]? = some d := (ov_eq nt f (.tmp t)).trans ht
 rw [List.mapM_cons, h H hb]
 show ((tab nt f)[t]?).bind _ = _
 rw [this]; rfl
theorem res_cell {t : Tmp} {ty : TypeId} {k i j sz bz : Nat} {ag : Bool} {es : List (List C)} {e cs : List C} {d : D} {rv : List ResultVar} {ds : List D} (p : Nat) (ht : ov nt f (.tmp t) = some (.one (.ptr k i j))) (hz : sizeAt E.ti ty = some (sz, ag)) (hp : L[p]? = some [(k, bz, es)]) (he : es[i]? = some e) (hc : cut e j (cond ag sz 1) = some cs) (hv : ofCells ag cs = some d) (h : ResL E nt f L rv ds) : ResL E nt f L (.cell t ty :: rv) (d :: ds) := fun H hb => by
 have h1 : (tab nt f)[t]? = some (.one (.ptr k i j)) := (ov_eq nt f (.tmp t)).trans ht
 unfold sizeAt at hz
 simp only [Option.bind_eq_some_iff, Option.some.injEq, Prod.mk.injEq] at hz
 obtain ⟨ti, g1, rfl, rfl⟩ := hz
 rw [List.mapM_cons, h H hb]
 show (((E.ti ty).bind fun t' => ((tab nt f)[t]?).bind fun d => load H (isAggD t'.desc) (if isAggD t'.desc then t'.size else 1) d).bind _) = _
 rw [g1, h1]
 simp only [Option.bind_some, load, hb.get hp, Option.bind_eq_bind, he, cond_if, hc, hv]
 rfl
theorem E_endF {rv : List ResultVar} {ds : List D} {vs : List (Bool × TD)} {e : Ex} {rs : List TD} (he : e = .normal ∨ e = .ret) (hr : ResL E nt f L rv ds) (hv : Vw L ds vs) (ho : ∀ h, HB h L → ownRes h ds = false) (hf : vs.all (·.1) = true) (hrs : vs.map (·.2) = rs) : EndL nt (endQ E rv (.fresh, rs)) e f L := fun H hb => by
 have key : holdsQ (fun l : Kind × List TD => l = (.fresh, rs)) ((rv.mapM (resultD E { t := tab nt f, h := H })).bind fun rs => (rs.mapM (viewD H)).map fun l => (if ownRes H rs then .own else if l.all (·.1) then .fresh else .any, l.map (·.2))) := by
  rw [hr H hb]
  simp only [Option.bind_some, hv H hb, Option.map_some, ho H hb, hf, hrs]
  rfl
 rcases he with rfl | rfl <;> exact key
theorem E_endX {rv : List ResultVar} {ds : List D} {vs : List (Bool × TD)} {e : Ex} {rs : List TD} (he : e = .normal ∨ e = .ret) (hr : ResL E nt f L rv ds) (hv : Vw L ds vs) (ho : ∀ h, HB h L → ownRes h ds = false) (hrs : vs.map (·.2) = rs) : EndL nt (endX E rv rs) e f L := fun H hb => by
 have key : holdsQ (fun l : Kind × List TD => l = (cond (vs.all (·.1)) .fresh .any, rs)) ((rv.mapM (resultD E { t := tab nt f, h := H })).bind fun rs => (rs.mapM (viewD H)).map fun l => (if ownRes H rs then .own else if l.all (·.1) then .fresh else .any, l.map (·.2))) := by
  rw [hr H hb]
  simp only [Option.bind_some, hv H hb, Option.map_some, ho H hb, hrs]
  show (_, _) = (_, _)
  cases vs.all (·.1) <;> rfl
 refine ⟨vs.all (·.1), ?_⟩
 rcases he with rfl | rfl <;> exact key
theorem E_endO {α : Type} {r : α → List T} {rv : List ResultVar} {k sz : Nat} {l : List α} {e : Ex} (p : Nat) (he : e = .normal ∨ e = .ret) (hr : ResL E nt f L rv [.one (.own k 0 l.length)]) (hp : L[p]? = some [(k, sz, l.map (rowC r))]) (hr2 : ∀ x h m, (rowC r x).mapM (view h (m + 1)) = some ((r x).map fun t => (true, t))) (hpl : ∀ x, (rowC r x).all plainB = true) : EndL nt (endQ E rv (.own, [.one (.s true sz (l.map r))])) e f L := fun H hb => by
 have ho : ownRes H [.one (.own k 0 l.length)] = true := by
  simp [ownRes, hb.get hp, hpl]
 have key : holdsQ (fun l' : Kind × List TD => l' = (.own, [.one (.s true sz (l.map r))])) ((rv.mapM (resultD E { t := tab nt f, h := H })).bind fun rs => (rs.mapM (viewD H)).map fun l => (if ownRes H rs then .own else if l.all (·.1) then .fresh else .any, l.map (·.2))) := by
  rw [hr H hb]
  have hv : [D.one (.own k 0 l.length)].mapM (viewD H) = some [(true, .one (.s true sz (l.map r)))] := vw_cons (vd_one (vc_own p hp hr2)) vw_nil H hb
  simp only [Option.bind_some, hv, Option.map_some, ho]
  rfl
 rcases he with rfl | rfl <;> exact key
theorem own_no2 {d e : D} {ds : List D} {h : Heap} : ownRes h (d :: e :: ds) = false := by
 unfold ownRes
 split
 ·rename_i hx; simp at hx
 ·rfl
theorem own_agg {cs : List C} {h : Heap} : ownRes h [.agg cs] = false := rfl
theorem own_p {fr : Bool} {t : T} {h : Heap} : ownRes h [.one (.p fr t)] = false := rfl
def f0 (vs : List TD) : Nat → D := fun i => (vs.map (unview false)).getD i undefD
theorem fn_F {k : FuncId} {fi : FI} {vs rs : List TD} (ha : E.ax k = none) (hf : E.fn k = some fi) (hl : Nat.ble vs.length fi.nt = true) (h : WpL E nY n fi.nt fi.body (endQ E fi.results (.fresh, rs)) (f0 vs) []) : RunsP E (n + 1) k vs (.fresh, rs) := runs_tab ha hf (Nat.le_of_ble_eq_true hl) (h [] ⟨List.nodup_nil, fun x hx => by simp at hx⟩)
theorem fn_O {k : FuncId} {fi : FI} {vs rs : List TD} (ha : E.ax k = none) (hf : E.fn k = some fi) (hl : Nat.ble vs.length fi.nt = true) (h : WpL E nY n fi.nt fi.body (endQ E fi.results (.own, rs)) (f0 vs) []) : RunsP E (n + 1) k vs (.own, rs) := runs_tab ha hf (Nat.le_of_ble_eq_true hl) (h [] ⟨List.nodup_nil, fun x hx => by simp at hx⟩)
theorem fn_X {k : FuncId} {fi : FI} {vs rs : List TD} (ha : E.ax k = none) (hf : E.fn k = some fi) (hl : Nat.ble vs.length fi.nt = true) (h : WpL E nY n fi.nt fi.body (endX E fi.results rs) (f0 vs) []) : RunsX E (n + 1) k vs rs := by
 obtain ⟨e, s', h1, fr, h2⟩ := h [] ⟨List.nodup_nil, fun x hx => by simp at hx⟩
 exact ⟨fr, runs_tab ha hf (Nat.le_of_ble_eq_true hl) ⟨e, s', h1, h2⟩⟩
end
section
variable (P : Program) (t : TypeId) (x y : Operand) (k : IntKind) {a b : Int}
theorem p_lss_t (h : a < b) : pureOf P (do eqGuard .lss t x y (.int k a) (.int k b); binOp .lss t (.int k a) (.int k b)) = some (.bool true) := by rw [p_lss, decide_eq_true h]
theorem p_lss_f (h : ¬ a < b) : pureOf P (do eqGuard .lss t x y (.int k a) (.int k b); binOp .lss t (.int k a) (.int k b)) = some (.bool false) := by rw [p_lss, decide_eq_false h]
theorem p_leq_t (h : a ≤ b) : pureOf P (do eqGuard .leq t x y (.int k a) (.int k b); binOp .leq t (.int k a) (.int k b)) = some (.bool true) := by rw [p_leq, decide_eq_true h]
theorem p_leq_f (h : ¬ a ≤ b) : pureOf P (do eqGuard .leq t x y (.int k a) (.int k b); binOp .leq t (.int k a) (.int k b)) = some (.bool false) := by rw [p_leq, decide_eq_false h]
theorem p_gtr_t (h : a > b) : pureOf P (do eqGuard .gtr t x y (.int k a) (.int k b); binOp .gtr t (.int k a) (.int k b)) = some (.bool true) := by rw [p_gtr, decide_eq_true h]
theorem p_gtr_f (h : ¬ a > b) : pureOf P (do eqGuard .gtr t x y (.int k a) (.int k b); binOp .gtr t (.int k a) (.int k b)) = some (.bool false) := by rw [p_gtr, decide_eq_false h]
theorem p_geq_t (h : a ≥ b) : pureOf P (do eqGuard .geq t x y (.int k a) (.int k b); binOp .geq t (.int k a) (.int k b)) = some (.bool true) := by rw [p_geq, decide_eq_true h]
theorem p_geq_f (h : ¬ a ≥ b) : pureOf P (do eqGuard .geq t x y (.int k a) (.int k b); binOp .geq t (.int k a) (.int k b)) = some (.bool false) := by rw [p_geq, decide_eq_false h]
theorem p_eql_t (h : a = b) : pureOf P (do eqGuard .eql t x y (.int k a) (.int k b); binOp .eql t (.int k a) (.int k b)) = some (.bool true) := by rw [p_eql, h]; simp
theorem p_eql_f (h : ¬ a = b) : pureOf P (do eqGuard .eql t x y (.int k a) (.int k b); binOp .eql t (.int k a) (.int k b)) = some (.bool false) := by rw [p_eql]; simp [h]
theorem p_neq_t (h : a ≠ b) : pureOf P (do eqGuard .neq t x y (.int k a) (.int k b); binOp .neq t (.int k a) (.int k b)) = some (.bool true) := by rw [p_neq]; simp [h]
theorem p_neq_f (h : ¬ a ≠ b) : pureOf P (do eqGuard .neq t x y (.int k a) (.int k b); binOp .neq t (.int k a) (.int k b)) = some (.bool false) := by rw [p_neq, Classical.not_not.1 h]; simp
end
def mo {α : Type} (w : Nat) (l : List α) : Sl α :=
 match l with
 | [] => ⟨false, 0, []⟩
 | _ :: _ => ⟨true, w, l⟩
def moC {α : Type} (l : List α) (k : Nat) : C :=
 match l with
 | [] => .p true (.s false 0 [])
 | _ :: _ => .own k 0 l.length
def moL {α : Type} (r : α → List T) (w : Nat) (l : List α) (k : Nat) : List B1 :=
 match l with
 | [] => []
 | _ :: _ => [(k, w, l.map (rowC r))]
theorem mo_l {α : Type} (w : Nat) (l : List α) : (mo w l).l = l := by cases l <;> rfl
def divO (k : IntKind) (a b : Int) : Option Int := if b ≠ 0 then some (k.wrap (a.tdiv b)) else none
def modO (a b : Int) : Option Int := if b ≠ 0 then some (a.tmod b) else none
theorem divO_p {P : Program} {t : TypeId} {x y : Operand} {k : IntKind} {a b z : Int} (h : divO k a b = some z) : pureOf P (do eqGuard .quo t x y (.int k a) (.int k b); binOp .quo t (.int k a) (.int k b)) = some (.int k z) := by
 unfold divO at h
 split at h
 ·rename_i hc; rw [← Option.some.inj h]; exact p_quo _ _ _ _ _ _ _ hc
 ·simp at h
theorem modO_p {P : Program} {t : TypeId} {x y : Operand} {k : IntKind} {a b z : Int} (h : modO a b = some z) : pureOf P (do eqGuard .rem t x y (.int k a) (.int k b); binOp .rem t (.int k a) (.int k b)) = some (.int k z) := by
 unfold modO at h
 split at h
 ·rename_i hc; rw [← Option.some.inj h]; exact p_rem _ _ _ _ _ _ _ hc
 ·simp at h
def lenOk (i : Int) : Option Unit := if 0 ≤ i ∧ i.toNat ≤ bound then some () else none
theorem lenOk_some {i : Int} {u : Unit} (h : lenOk i = some u) : 0 ≤ i ∧ i.toNat ≤ bound := by
 unfold lenOk at h
 split at h
 ·assumption
 ·simp at h
end Ev
end Go.Proofs.YtnikcjnkcjondaaDoor
end
section
namespace Go.Proofs.YtnikcjnkcjondaaDoor
namespace Ev
open Go Go.RowKit
set_option linter.unusedVariables false
set_option linter.unusedSimpArgs false
def shrI (x : Int) (k : IntKind) (y : Int) : Int := x.fdiv (2 ^ (min y.toNat k.bits))
def shlI (x : Int) (k : IntKind) (y : Int) : Int := k.wrap (x * 2 ^ (min y.toNat k.bits))
def shr1 (k : IntKind) (x y : Int) : Option Int := if 0 ≤ y then some (shrI x k y) else none
def shl1 (k : IntKind) (x y : Int) : Option Int := if 0 ≤ y then some (shlI x k y) else none
theorem p_shr {P : Program} {t : TypeId} {x y : Operand} {k k' : IntKind} {a b z : Int} (h : shr1 k a b = some z) : pureOf P (do eqGuard .shr t x y (.int k a) (.int k' b); binOp .shr t (.int k a) (.int k' b)) = some (.int k z) := by
 unfold shr1 at h
 split at h
 ·rename_i hc
  rw [← Option.some.inj h]
  have : (do eqGuard .shr t x y (.int k a) (.int k' b); binOp .shr t (.int k a) (.int k' b)) = (pure (.int k (shrI a k b)) : Sem Value) := by
   show Op.shift .shr k a k' b = _
   unfold Op.shift
   rw [if_neg (by omega)]
   rfl
  rw [this]; rfl
 ·simp at h
theorem p_shl {P : Program} {t : TypeId} {x y : Operand} {k k' : IntKind} {a b z : Int} (h : shl1 k a b = some z) : pureOf P (do eqGuard .shl t x y (.int k a) (.int k' b); binOp .shl t (.int k a) (.int k' b)) = some (.int k z) := by
 unfold shl1 at h
 split at h
 ·rename_i hc
  rw [← Option.some.inj h]
  have : (do eqGuard .shl t x y (.int k a) (.int k' b); binOp .shl t (.int k a) (.int k' b)) = (pure (.int k (shlI a k b)) : Sem Value) := by
   show Op.shift .shl k a k' b = _
   unfold Op.shift
   rw [if_neg (by omega)]
   rfl
  rw [this]; rfl
 ·simp at h
def andI (k : IntKind) (x y : Int) : Int := k.wrap (BitVec.ofInt k.bits x &&& BitVec.ofInt k.bits y).toNat
def orI (k : IntKind) (x y : Int) : Int := k.wrap (BitVec.ofInt k.bits x ||| BitVec.ofInt k.bits y).toNat
def andNotI (k : IntKind) (x y : Int) : Int := k.wrap (BitVec.ofInt k.bits x &&& ~~~ BitVec.ofInt k.bits y).toNat
section
variable (P : Program) (t : TypeId) (x y : Operand) (k : IntKind) (a b : Int)
theorem p_and : pureOf P (do eqGuard .and t x y (.int k a) (.int k b); binOp .and t (.int k a) (.int k b)) = some (.int k (andI k a b)) := by cases k <;> rfl
theorem p_or : pureOf P (do eqGuard .or t x y (.int k a) (.int k b); binOp .or t (.int k a) (.int k b)) = some (.int k (orI k a b)) := by cases k <;> rfl
theorem p_andNot : pureOf P (do eqGuard .andNot t x y (.int k a) (.int k b); binOp .andNot t (.int k a) (.int k b)) = some (.int k (andNotI k a b)) := by cases k <;> rfl
end
section
variable {E : Env} {y : Nat → YldP} {n nt : Nat} {f : Nat → D} {L : BL}
def cutS {α : Type} (w : Nat) (s : Sl α) (lo hi : Int) : Option (Sl α) := if 0 ≤ lo ∧ lo ≤ hi ∧ hi ≤ (s.l.length : Int) ∧ (s.sz = w ∨ lo = 0) then some ⟨s.nn, s.sz, (s.l.drop lo.toNat).take (hi.toNat - lo.toNat)⟩ else none
theorem cutS_some {α : Type} {w : Nat} {s s' : Sl α} {lo hi : Int} (h : cutS w s lo hi = some s') : (0 ≤ lo ∧ lo ≤ hi ∧ hi ≤ (s.l.length : Int) ∧ (s.sz = w ∨ lo = 0)) ∧ s' = ⟨s.nn, s.sz, (s.l.drop lo.toNat).take (hi.toNat - lo.toNat)⟩ := by
 unfold cutS at h
 split at h
 ·rename_i hc; exact ⟨hc, (Option.some.inj h).symm⟩
 ·simp at h
theorem no_none {ρ : Operand → Option D} (d : Nat) : natOr ρ none d = some ((d : Int)).toNat := by simp [natOr]
theorem no_zero {ρ : Operand → Option D} : natOr ρ none 0 = some ((0 : Int)).toNat := rfl
theorem no_some {y : Operand} {fr : Bool} {k : IntKind} {i : Int} (hx : ov nt f y = some (.one (.p fr (.v (.int k i))))) (h0 : 0 ≤ i) (d : Nat) : natOr (ov nt f) (some y) d = some i.toNat := by
 show (ov nt f y).bind asNat = _
 rw [hx]
 exact asNat_nonneg fr k _ h0
theorem q_sliceM {α : Type} {r : α → List T} {ty e : TypeId} {t te : TI} {x : Operand} {lo hi mx : Option Operand} {fr nn : Bool} {sz m : Nat} {l : List α} {s' : Sl α} {i j : Int} (hc : cutS te.size ⟨nn, sz, l⟩ i j = some s') (hx : ov nt f x = some (.one (.p fr (.s nn sz (l.map r))))) (ht : E.ti ty = some t) (he : elemOf t = some e) (hte : E.ti e = some te) (hlo : natOr (ov nt f) lo 0 = some i.toNat) (hhi : natOr (ov nt f) hi l.length = some j.toNat) (hmx : natOr (ov nt f) mx l.length = some m) (hm : (mx.isSome && hi.isNone) = false) (hm1 : j.toNat ≤ m) (hm2 : m ≤ l.length) : PS E n nt f L (.slice ty x lo hi mx) (.one (.p fr (Sl.t r s'))) := fun h nid hb => by
 obtain ⟨⟨c1, c2, c3, c4⟩, rfl⟩ := cutS_some hc
 simp only at c1 c2 c3 c4
 show (if (mx.isSome && hi.isNone) = true then none else (E.ti ty).bind fun t => (elemOf t).bind fun q => (E.ti q).bind fun te => (opndG (slots (tab nt f)) x).bind fun d => (lenD d).bind fun n => (natOr (opndG (slots (tab nt f))) hi n).bind fun h' => (natOr (opndG (slots (tab nt f))) lo 0).bind fun l' => (natOr (opndG (slots (tab nt f))) mx n).bind fun m' => if l' ≤ h' ∧ h' ≤ m' ∧ m' ≤ n then _ else _) = _
 rw [if_neg (by rw [hm]; simp), ht, ov_fun]
 simp only [Option.bind_some, he, hte, hx, lenD_s, hhi, hlo, hmx]
 rw [if_pos (by omega)]
 show (if sz = te.size ∨ i.toNat = 0 then _ else _) = _
 rw [if_pos (by rcases c4 with h | h; exact .inl h; exact .inr (by omega))]
 unfold Sl.t
 rw [List.map_take, List.map_drop]
theorem q_sliceS {α : Type} {r : α → List T} {ty e : TypeId} {t te : TI} {x : Operand} {lo hi : Option Operand} {fr nn : Bool} {sz : Nat} {l : List α} {s' : Sl α} {i j : Int} (hc : cutS te.size ⟨nn, sz, l⟩ i j = some s') (hx : ov nt f x = some (.one (.p fr (.s nn sz (l.map r))))) (ht : E.ti ty = some t) (he : elemOf t = some e) (hte : E.ti e = some te) (hlo : natOr (ov nt f) lo 0 = some i.toNat) (hhi : natOr (ov nt f) hi l.length = some j.toNat) : PS E n nt f L (.slice ty x lo hi none) (.one (.p fr (Sl.t r s'))) :=
 q_sliceM hc hx ht he hte hlo hhi (m := l.length) rfl rfl (by have := (cutS_some hc).1; simp only at this; omega) (Nat.le_refl _)
theorem q_ixA {ty e : TypeId} {t te : TI} {m z : Nat} {x ix : Operand} {fb : Bool} {kb : IntKind} {k i j a : Nat} (ht : E.ti ty = some t) (hd : t.desc = .array m e) (hte : E.ti e = some te) (hz : te.size = z) (hx : ov nt f x = some (.one (.ptr k i j))) (hi : ov nt f ix = some (.one (.p fb (.v (.int kb (a : Int)))))) (ha : Nat.blt a m = true) : PS E n nt f L (.indexAddr ty x ix) (.one (.ptr k i (j + a * z))) := fun h nid hb => by
 rw [s_index, ov_eq, hx, ov_eq, hi]
 refine Eq.trans (b := kIx2 E.ti ty h a (.one (.ptr k i j))) rfl ?_
 show ((E.ti ty).bind fun t => match t.desc with
  | .array n e => (E.ti e).bind fun te => if a < n then some (⟨.one (.ptr k i (j + a * te.size)), []⟩ : Eff) else none
  | _ => none) = _
 rw [ht]
 simp only [Option.bind_some, hd, hte]
 rw [if_pos (blt_lt ha), hz]
variable {ops : Array Oper} {r : List Oper} {K : St → Prop}
theorem ol_re (i : Nat) {v : D} (h : f i = v) (h2 : OpsL E y n nt ops r K (up f i v) L) : OpsL E y n nt ops r K f L := by rw [up_self h] at h2; exact h2
theorem tn_re {q w b : Nat} {O : List (List Nat)} {N : List (Bool × List Nat)} {R : List (List Nat)} (i : Nat) {v : D} (h : f i = v) (h2 : TnL E n nt ops r q w O N R b K (up f i v) L) : TnL E n nt ops r q w O N R b K f L := by rw [up_self h] at h2; exact h2
def minI (a b : Int) : Int := if b < a then b else a
def maxI (a b : Int) : Int := if b > a then b else a
theorem q_minmax {c : Call} {x y : Operand} {ty : TypeId} {t : TI} {fa fb : Bool} {ka kb : IntKind} {a b : Int} (hx : ov nt f x = some (.one (.p fa (.v (.int ka a))))) (hy : ov nt f y = some (.one (.p fb (.v (.int kb b))))) (ht : E.ti ty = some t) (hargs : c.args.toList = [x, y]) (hty : c.argTypes[0]? = some ty) : (c.callee = .builtin .min → PS E n nt f L (.call c) (iD ka (minI a b))) ∧ (c.callee = .builtin .max → PS E n nt f L (.call c) (iD ka (maxI a b))) := by
 constructor <;> intro hc h nid hb
 all_goals
  have h1 : isCall (.call c) = none := by unfold isCall; simp only [hc]
  rw [s_call, h1]
  unfold sem opOf
  simp only [hc, hty, ht, hargs, ov_fun, Option.bind_eq_bind, Option.bind_some, List.mapM_cons, List.mapM_nil, hx, hy, Option.pure_def, plain, plainC]
  rfl
theorem app_eq {α : Type} {l m x : List α} (h : app l m = some x) : x = l ++ m := (app_some h).2
theorem app_len {α : Type} {l m x : List α} (h : app l m = some x) : x.length ≤ bound := by
 obtain ⟨h1, rfl⟩ := app_some h
 simpa using h1
theorem q_app0V {α : Type} {ro : α → List C} {c : Call} {a x : Operand} {ty ty1 z e1 : TypeId} {t1 : TI} {fr : Bool} {bz : Nat} {d : D} {y : α} {ys : List α} (ha : ov nt f a = some (.one (.p fr (.s false bz [])))) (hx : ov nt f x = some d) (hxs : Elems L d ((y :: ys).map ro)) (hb : (y :: ys).length ≤ bound) (hr : ∀ y, (ro y).length = z) (hz : elemAt E.ti ty = some z) (ht1 : E.ti ty1 = some t1) (he1 : elemOf t1 = some e1)
  (hc : c.callee = .builtin .append) (hargs : c.args.toList = [a, x]) (hty : c.argTypes[0]? = some ty) (hty1 : c.argTypes[1]? = some ty1) : PN E n nt f L (.call c) (fun k => .one (.own k 0 (y :: ys).length)) z ((y :: ys).map ro) := by
 have := q_app0 (n := n) ha hx hxs ⟨_, _, rfl⟩ (by simpa using hb) (by simp [hr]) hz ht1 he1 hc hargs hty hty1
 rw [List.length_map] at this
 exact this
end
theorem atM_some {α : Type} {w : Nat} {l : List α} {i : Int} {x : α} (h : atS w (mo w l) i = some x) : 0 ≤ i ∧ l[i.toNat]? = some x := by
 obtain ⟨h1, _, h2⟩ := atS_some h
 rw [mo_l] at h2
 exact ⟨h1, h2⟩
theorem atS_nil {α : Type} {w : Nat} {i : Int} {x : α} (h : atS w (⟨false, 0, []⟩ : Sl α) i = some x) : False := by
 obtain ⟨_, _, h2⟩ := atS_some h
 simp at h2
def resM {α : Type} (w : Nat) (r : α → List T) (l : List α) : Kind × List TD :=
 match l with
 | [] => (.fresh, [.one (.s false 0 [])])
 | y :: t => (.own, [.one (.s true w ((y :: t).map r))])
theorem fn_M {E : Env} {n : Nat} {k : FuncId} {fi : FI} {vs : List TD} {rs : Kind × List TD} (ha : E.ax k = none) (hf : E.fn k = some fi) (hl : Nat.ble vs.length fi.nt = true) (h : WpL E nY n fi.nt fi.body (endQ E fi.results rs) (f0 vs) []) : RunsP E (n + 1) k vs rs := runs_tab ha hf (Nat.le_of_ble_eq_true hl) (h [] ⟨List.nodup_nil, fun x hx => by simp at hx⟩)
section
variable {α : Type} {rw_ : α → List T} {w k : Nat} {l : List α}
theorem segM {L : BL} {p : Nat} {r : α → List T} (hp : L[p]? = some (moL r w l k)) {i : Nat} {y : α} (hy : l[i]? = some y) : L[p]? = some [(k, w, l.map (rowC r))] := by
 cases l with
 | nil => simp at hy
 | cons a l => exact hp
theorem setM {r : α → List T} {i : Nat} {y y' : α} (hy : l[i]? = some y) : [(k, w, (l.set i y').map (rowC r))] = moL r w (l.set i y') k := by
 cases l with
 | nil => simp at hy
 | cons a l => cases i <;> rfl
theorem moC_set {i : Nat} {x : α} : moC l k = moC (l.set i x) k := by
 cases l with
 | nil => rfl
 | cons a l =>
  have h : ∀ m : List α, m ≠ [] → moC m k = .own k 0 m.length := fun m hm => by cases m with | nil => exact absurd rfl hm | cons b m => rfl
  rw [h _ (by simp), h _ (by simp), List.length_set]
theorem lenD_M : lenD (.one (moC l k)) = some l.length := by cases l <;> rfl
end
section
variable {E : Env} {y : Nat → YldP} {n nt : Nat} {f : Nat → D} {L : BL} {ops : Array Oper} {o : Oper} {rr : List Oper} {K : St → Prop} {d : Nat}
theorem q_lenM {α : Type} {l : List α} {c : Call} {a : Operand} {ty e : TypeId} {t : TI} {k : Nat} (hx : ov nt f a = some (.one (moC l k))) (ht : E.ti ty = some t) (hd : t.desc = .slice e) (hc : c.callee = .builtin .len) (ha : c.args.toList = [a]) (hty : c.argTypes[0]? = some ty) : PS E n nt f L (.call c) (iD .i64 l.length) := q_lenG hc ha hty ht hd hx lenD_M
theorem q_ixM {α : Type} {r : α → List T} {ty : TypeId} {x ix : Operand} {fb : Bool} {k w : Nat} {l : List α} {kb : IntKind} {i : Int} {y : α} (p : Nat) (hx : ov nt f x = some (.one (moC l k))) (hi : ov nt f ix = some (.one (.p fb (.v (.int kb i))))) (h0 : 0 ≤ i) (hy : l[i.toNat]? = some y) (hp : L[p]? = some (moL r w l k)) (hz : elemAt E.ti ty = some w) : PS E n nt f L (.indexAddr ty x ix) (.one (.ptr k i.toNat 0)) := by
 cases l with
 | nil => simp at hy
 | cons a l => exact q_ixO (r := rowC r) p hx hi h0 hy hp hz
def moK {α : Type} (l : List α) (k : Nat) : List Nat :=
 match l with
 | [] => []
 | _ :: _ => [k]
theorem huM {α : Type} {l : List α} {k j : Nat} {y : α} {u : List Nat} (hy : l[j]? = some y) (h : u = moK l k ++ []) : u = [k] := by
 cases l with
 | nil => simp at hy
 | cons a l => rw [h]; rfl
theorem HB.dropNil {h : Heap} {L : BL} {p : Nat} (hp : L[p]? = some []) (hb : HB h L) : HB h (L.eraseIdx p) := by unfold HB; rw [erase_nil hp]; exact hb
theorem ol_dropNil {p : Nat} (hp : L[p]? = some []) (h : OpsL E y n nt ops rr K f (L.eraseIdx p)) : OpsL E y n nt ops rr K f L := fun H hb => h H (hb.dropNil hp)
theorem ol_addM {α : Type} (r : α → List T) (w : Nat) (h : OpsL E y n nt ops rr K f (moL r w ([] : List α) 0 :: L)) : OpsL E y n nt ops rr K f L := fun H hb => h H hb
theorem L_addM {α : Type} {Q : Ex → St → Prop} {c : Code} (r : α → List T) (w : Nat) (h : WpL E y n nt c Q f (moL r w ([] : List α) 0 :: L)) : WpL E y n nt c Q f L := fun H hb => h H hb
theorem set_same {α : Type} : ∀ {l : List α} {q : Nat} {s : α}, l[q]? = some s → l.set q s = l
 | [], q, s, h => by simp at h
 | a :: l, 0, s, h => by simp at h; subst h; rfl
 | a :: l, q + 1, s, h => by rw [List.set_cons_succ, set_same (by simpa using h)]
theorem ol_reS (q : Nat) {s s' : List B1} (hq : L[q]? = some s) (he : s = s') (h : OpsL E y n nt ops rr K f (L.set q s')) : OpsL E y n nt ops rr K f L := by subst he; rw [set_same hq] at h; exact h
theorem tn_reS {i wd b : Nat} {O : List (List Nat)} {N : List (Bool × List Nat)} {R : List (List Nat)} (q : Nat) {s s' : List B1} (hq : L[q]? = some s) (he : s = s') (h : TnL E n nt ops rr i wd O N R b K f (L.set q s')) : TnL E n nt ops rr i wd O N R b K f L := by subst he; rw [set_same hq] at h; exact h
theorem own_setC {α : Type} {k i : Nat} {l : List α} {x : α} : C.own k 0 l.length = C.own k 0 (l.set i x).length := by rw [List.length_set]
theorem moK_ne {α : Type} {l : List α} {k k2 : Nat} (h : k2 ∉ moK l k) : ∀ x ∈ moK l k, ¬ x = k2 := fun x hx e => h (e ▸ hx)
theorem ol_appM {α : Type} {r : α → List T} {c : Call} {a x : Operand} {ty ty1 w e1 : TypeId} {t1 : TI} {k : Nat} {l ys lm : List α} {dx : D} (p : Nat) (hw : wantF ops o nt f = some true) (hd : o.dst = some d) (hn : Nat.blt d nt = true) (ho : o.op = .call c) (ha : ov nt f a = some (.one (moC l k))) (hx : ov nt f x = some dx) (hxs : Elems L dx (ys.map (rowC r))) (hp : L[p]? = some (moL r w l k)) (hlm : app l ys = some lm) (hr : ∀ y, (rowC r y).length = w) (hz : elemAt E.ti ty = some w) (ht1 : E.ti ty1 = some t1) (he1 : elemOf t1 = some e1)
  (hc : c.callee = .builtin .append) (hargs : c.args.toList = [a, x]) (hty : c.argTypes[0]? = some ty) (hty1 : c.argTypes[1]? = some ty1) (h : ∀ k', OpsL E y n nt ops rr K (up f d (.one (moC lm k'))) (moL r w lm k' :: L.eraseIdx p)) (hz0 : Nat.beq w 0 = false := by rfl) : OpsL E y n nt ops (o :: rr) K f L := by
 cases l with
 | nil =>
  have hlm2 := app_eq hlm
  rw [List.nil_append] at hlm2
  subst hlm2
  have hb := app_len hlm
  cases lm with
  | nil => exact ol_put hw hd hn (by rw [ho]; exact q_appN ha hx hxs hz ht1 he1 hc hargs hty hty1) (ol_dropNil hp (h 0))
  | cons y ys =>
   refine ol_new hw hd hn (by rw [ho]; exact q_app0V (ro := rowC r) ha hx hxs hb hr hz ht1 he1 hc hargs hty hty1) fun k' => ?_
   exact ol_dropNil (p := p + 1) hp (h k')
 | cons y l =>
  obtain ⟨_, rfl⟩ := app_some hlm
  exact ol_app hw hd hn (by rw [ho]; exact q_app (r := rowC r) p ha hx hxs rfl hp hlm hr hz ht1 he1 hc hargs hty hty1 hz0) rfl h
theorem tn_dropNil {i q b p : Nat} {O : List (List Nat)} {N : List (Bool × List Nat)} {R : List (List Nat)} (hp : L[p]? = some []) (h : TnL E n nt ops rr i q O N R b K f (L.eraseIdx p)) : TnL E n nt ops rr i q O N R b K f L := fun H hb hl => h H (hb.dropNil hp) hl
theorem tn_appM {α : Type} {r : α → List T} {c : Call} {a x : Operand} {ty ty1 w e1 : TypeId} {t1 : TI} {k i wd b : Nat} {O : List (List Nat)} {N : List (Bool × List Nat)} {R : List (List Nat)} {A : BL} {l ys lm : List α} {y0 : α} {dx : D} (p q : Nat) (hw : wantF ops o nt f = some true) (hd : o.dst = some d) (hn : Nat.blt d nt = true) (ho : o.op = .call c) (is : List Nat) (hn2 : is.Nodup) (hA : is.filterMap (fun i => L[i]?) = A) (hm : ∀ x ∈ A.flatten, x.1 ∉ (R.getD i []).flatMap (turnsOf b O N)) (hu : turnsOf b O N i = moK l k ++ [b + i]) (hi : Nat.blt i wd = true) (hk : ∀ x ∈ L.flatten, x.1 ≠ b + i)
  (ha : ov nt f a = some (.one (moC l k))) (hx : ov nt f x = some dx) (hxs : Elems A dx ((y0 :: ys).map (rowC r))) (hp : A[p]? = some (moL r w l k)) (hq : L[q]? = some (moL r w l k)) (hlm : app l (y0 :: ys) = some lm) (hr : ∀ y, (rowC r y).length = w) (hz : elemAt E.ti ty = some w) (ht1 : E.ti ty1 = some t1) (he1 : elemOf t1 = some e1)
  (hc : c.callee = .builtin .append) (hargs : c.args.toList = [a, x]) (hty : c.argTypes[0]? = some ty) (hty1 : c.argTypes[1]? = some ty1) (h : TnL E n nt ops rr (i + 1) wd O N R b K (up f d (.one (moC lm (b + i)))) (moL r w lm (b + i) :: L.eraseIdx q)) (hz0 : Nat.beq w 0 = false := by rfl) : TnL E n nt ops (o :: rr) i wd O N R b K f L := by
 cases l with
 | nil =>
  have hlm2 := app_eq hlm
  rw [List.nil_append] at hlm2
  subst hlm2
  have hb := app_len hlm
  refine tn_new hw hd hn is hn2 hA hm hu hi hk (by rw [ho]; exact q_app0V (ro := rowC r) ha hx hxs hb hr hz ht1 he1 hc hargs hty hty1) ?_
  exact tn_dropNil (p := q + 1) hq h
 | cons y l =>
  obtain ⟨_, rfl⟩ := app_some hlm
  exact tn_app hw hd hn is hn2 hA hm hu hi hk (by rw [ho]; exact q_app (r := rowC r) p ha hx hxs rfl hp hlm hr hz ht1 he1 hc hargs hty hty1 hz0) hq rfl h
theorem hkM {α : Type} {r : α → List T} {w k z : Nat} {l : List α} {A : BL} (h1 : l = [] ∨ k ≠ z) (h2 : ∀ x ∈ A.flatten, x.1 ≠ z) : ∀ x ∈ (moL r w l k :: A : BL).flatten, x.1 ≠ z := fun x hx => by
 rw [List.flatten_cons, List.mem_append] at hx
 rcases hx with hx | hx
 ·cases l with
  | nil => simp [moL] at hx
  | cons a l => simp only [moL, List.mem_singleton] at hx; subst hx; exact h1.resolve_left (by simp)
 ·exact h2 x hx
theorem key_ltM {α : Type} {r : α → List T} {w k b : Nat} {l : List α} (h : ∀ x ∈ L.flatten, x.1 < b) (p : Nat) (hp : L[p]? = some (moL r w l k)) : l = [] ∨ k < b := by
 cases l with
 | nil => exact .inl rfl
 | cons a l => exact .inr (key_lt h p hp)
theorem key_neM {α : Type} {r : α → List T} {w k k2 : Nat} {l : List α} {x2 : Nat × List (List C)} (hn : (L.flatten.map (·.1)).Nodup) (p q : Nat) (hp : L[p]? = some (moL r w l k)) (hq : L[q]? = some [(k2, x2)]) (hpq : Nat.beq p q = false) : k2 ∉ moK l k := by
 cases l with
 | nil => simp [moK]
 | cons a l => have := key_ne hn p q hp hq hpq; simp [moK]; omega
theorem moK_lt {α : Type} {l : List α} {k b : Nat} (h : l = [] ∨ k < b) : ∀ x ∈ moK l k, x < b := fun x hx => by
 cases l with
 | nil => simp [moK] at hx
 | cons a l => simp only [moK, List.mem_singleton] at hx; subst hx; exact h.resolve_left (by simp)
theorem vc_M {α : Type} {r : α → List T} {w k : Nat} {l : List α} (p : Nat) (hp : L[p]? = some (moL r w l k)) (hr : ∀ x h m, (rowC r x).mapM (view h (m + 1)) = some ((r x).map fun t => (true, t))) : ∀ h, HB h L → ∀ m, view h (m + 2) (moC l k) = some (true, Sl.t r (mo w l)) := by
 cases l with
 | nil => exact fun h hb m => rfl
 | cons a l => exact vc_own (r := r) p hp hr
theorem E_endM {α : Type} {r : α → List T} {rv : List ResultVar} {k w : Nat} {l : List α} {e : Ex} (p : Nat) (he : e = .normal ∨ e = .ret) (hr : ResL E nt f L rv [.one (moC l k)]) (hp : L[p]? = some (moL r w l k)) (hr2 : ∀ x h m, (rowC r x).mapM (view h (m + 1)) = some ((r x).map fun t => (true, t))) (hpl : ∀ x, (rowC r x).all plainB = true) : EndL nt (endQ E rv (resM w r l)) e f L := by
 cases l with
 | nil => exact E_endF he hr (vw_cons (vd_one vc_s) vw_nil) (fun h hb => own_p) rfl rfl
 | cons a l => exact E_endO (r := r) p he hr hp hr2 hpl
theorem ol_callM {α : Type} {r : α → List T} {c : Call} {k : FuncId} {args : List D} {vs : List (Bool × TD)} {vs2 : List TD} {w : Nat} {l : List α} (hk : RunsP E n k vs2 (resM w r l)) (hw : wantF ops o nt f = some true) (hd : o.dst = some d) (hn : Nat.blt d nt = true) (ho : o.op = .call c) (hc : isCall (.call c) = some c) (hr : resolveD c (ov nt f) = some (k, args)) (hv : Vw L args vs) (h2 : vs.map (·.2) = vs2) (h : ∀ k', OpsL E y n nt ops rr K (up f d (.one (moC l k'))) (moL r w l k' :: L)) : OpsL E y n nt ops (o :: rr) K f L := by
 cases l with
 | nil => exact ol_put hw hd hn (by rw [ho]; exact q_callF hk hc hr hv h2 rfl) fun H hb => h 0 H hb
 | cons a l => exact ol_new hw hd hn (by rw [ho]; exact q_callO (r := r) hk hc hr hv h2) h
end
theorem pof_bind {α β : Type} (P : Program) (s : Sem α) (k : α → Sem β) : pureOf P (s >>= k) = (pureOf P s).bind fun a => pureOf P (k a) := by
 induction s with
 | pure a => rfl
 | program q ih => exact ih P
 | _ => rfl
section
variable {P : Program}
theorem pof_und {t : TypeId} {d : TypeDesc} (h : P.underlying t = some d) : pureOf P (underlying t) = some d := by
 have : pureOf P (underlying t) = match P.underlying t with | some d => some d | none => none := by
  show pureOf P (underlying t) = _
  cases hx : P.underlying t with
  | none => rw [hx] at h; simp at h
  | some d' =>
   unfold underlying
   simp [pof_bind, program, pureOf, hx]
   rfl
 rw [this, h]
theorem pof_struct (d : Nat) (t : TypeId) (xs ys : Array Value) {fs : Array Field} (ht : P.underlying t = some (.struct fs)) (hp : P.stoodInHeld t = false) :
  pureOf P (Op.equalIn (d + 1) t (.agg xs) (.agg ys)) = pureOf P (Op.eqFields d xs ys fs.toList) := by
 have e1 : pureOf P program = some P := rfl
 simp only [Op.equalIn, pof_bind, pof_und ht, Option.bind_some, e1, hp, Bool.false_eq_true, if_false]
 rw [← Array.forIn_toList]
 generalize fs.toList = fs
 clear ht
 induction fs with
 | nil => rfl
 | cons f fs ih =>
  simp only [List.forIn_cons, Op.eqFields, pof_bind]
  by_cases hf : f.name ≠ "_"
  ·simp only [if_pos hf, pof_bind]
   cases pureOf P (part f.type xs f.offset) with
   | none => rfl
   | some a =>
    cases pureOf P (part f.type ys f.offset) with
    | none => rfl
    | some b =>
     simp only [Option.bind_some]
     cases pureOf P (Op.equalIn d f.type a b) with
     | none => rfl
     | some q =>
      cases q
      ·rfl
      ·exact ih
  ·simp only [if_neg hf, pof_bind]
   exact ih
theorem pof_field {d : Nat} {xs ys : Array Value} {f : Field} {fs : List Field} {k k' : IntKind} {a b : Int} (hf : (f.name == "_") = false) (h1 : pureOf P (part f.type xs f.offset) = some (.int k a)) (h2 : pureOf P (part f.type ys f.offset) = some (.int k b)) (h3 : P.underlying f.type = some (.int k')) :
  pureOf P (Op.eqFields (d + 1) xs ys (f :: fs)) = if (a == b) = true then pureOf P (Op.eqFields (d + 1) xs ys fs) else some false := by
 have hf' : f.name ≠ "_" := by simpa using hf
 have h4 : pureOf P (Op.equalIn (d + 1) f.type (.int k a) (.int k b)) = some (a == b) := by
  simp only [Op.equalIn, pof_bind, pof_und h3, Option.bind_some, if_true]
  rfl
 simp only [Op.eqFields, if_pos hf', pof_bind, h1, h2, h4, Option.bind_some]
 cases a == b <;> rfl
theorem pof_nofield {d : Nat} {xs ys : Array Value} : pureOf P (Op.eqFields d xs ys []) = some true := rfl
theorem pof_eqlA {t : TypeId} {x y : Operand} {xs ys : Array Value} {b : Bool} (hg : P.eqGuardType P.depth t = false) (h : pureOf P (Op.equalIn 10000 t (.agg xs) (.agg ys)) = some b) : pureOf P (do eqGuard .eql t x y (.agg xs) (.agg ys); binOp .eql t (.agg xs) (.agg ys)) = some (.bool b) := by
 have e1 : pureOf P program = some P := rfl
 have h1 : pureOf P (eqGuard .eql t x y (.agg xs) (.agg ys)) = some () := by
  simp only [eqGuard, Bool.not_true, Bool.false_eq_true, if_false, pof_bind, e1, Option.bind_some, hg, Bool.not_false, if_true]
  rfl
 rw [pof_bind, h1]
 show pureOf P (binOp .eql t (.agg xs) (.agg ys)) = _
 have h2 : binOp .eql t (.agg xs) (.agg ys) = (do pure (.bool (← Op.equal t (.agg xs) (.agg ys)))) := rfl
 rw [h2, pof_bind]
 unfold Op.equal Op.maxDepth
 rw [h]; rfl
theorem pof_neqA {t : TypeId} {x y : Operand} {xs ys : Array Value} {b : Bool} (hg : P.eqGuardType P.depth t = false) (h : pureOf P (Op.equalIn 10000 t (.agg xs) (.agg ys)) = some b) : pureOf P (do eqGuard .neq t x y (.agg xs) (.agg ys); binOp .neq t (.agg xs) (.agg ys)) = some (.bool (!b)) := by
 have e1 : pureOf P program = some P := rfl
 have h1 : pureOf P (eqGuard .neq t x y (.agg xs) (.agg ys)) = some () := by
  simp only [eqGuard, Bool.not_true, Bool.false_eq_true, if_false, pof_bind, e1, Option.bind_some, hg, Bool.not_false, if_true]
  rfl
 rw [pof_bind, h1]
 show pureOf P (binOp .neq t (.agg xs) (.agg ys)) = _
 have h2 : binOp .neq t (.agg xs) (.agg ys) = (do pure (.bool (!(← Op.equal t (.agg xs) (.agg ys))))) := rfl
 rw [h2, pof_bind]
 unfold Op.equal Op.maxDepth
 rw [h]; rfl
theorem and_of {a b : Bool} {q : Option Bool} (h : q = some b) : (if a = true then q else some false) = some (a && b) := by cases a <;> simp [h]
end
end Ev
end Go.Proofs.YtnikcjnkcjondaaDoor
end
section
namespace Go.Proofs.YtnikcjnkcjondaaDoor
namespace Ev
open Go Go.RowKit
set_option linter.unusedVariables false
set_option linter.unusedSimpArgs false
def inK (k : IntKind) (x : Int) : Prop := (Lit.int k x).wf = true
def SlW {α : Type} (w : Nat) (Q : α → Prop) (s : Sl α) : Prop := s.sz = w ∧ (s.nn = false → s.l = []) ∧ s.l.length ≤ maxLen ∧ ∀ x ∈ s.l, Q x
section
variable {P : Program} {t : TypeId} {ts : List T}
theorem typ_int {k : IntKind} (hu : P.underlying t = some (.int k)) (h : Typ P t ts) : ∃ x : Int, ts = [iT k x] ∧ inK k x := by
 cases h with
 | int _ k' n h hw => rw [hu] at h; cases h; exact ⟨n, rfl, hw⟩
 | bool _ b h => rw [hu] at h; simp at h
 | str _ s h => rw [hu] at h; simp at h
 | slice _ e nn l h => rw [hu] at h; simp at h
 | struct _ fs tss h => rw [hu] at h; simp at h
 | array _ n e tss h => rw [hu] at h; simp at h
theorem typ_bool (hu : P.underlying t = some .bool) (h : Typ P t ts) : ∃ x : Bool, ts = [bT x] ∧ True := by
 cases h with
 | bool _ b h => exact ⟨b, rfl, trivial⟩
 | int _ k' n h hw => rw [hu] at h; simp at h
 | str _ s h => rw [hu] at h; simp at h
 | slice _ e nn l h => rw [hu] at h; simp at h
 | struct _ fs tss h => rw [hu] at h; simp at h
 | array _ n e tss h => rw [hu] at h; simp at h
theorem rows_open {α β : Type} {r : α → β} {Q : α → Prop} : ∀ {l : List β}, (∀ es ∈ l, ∃ x, es = r x ∧ Q x) → ∃ xs : List α, l = xs.map r ∧ ∀ x ∈ xs, Q x
 | [], _ => ⟨[], rfl, fun x hx => by simp at hx⟩
 | e :: l, h => by
  obtain ⟨x, rfl, hx⟩ := h e List.mem_cons_self
  obtain ⟨xs, rfl, hxs⟩ := rows_open fun e he => h e (List.mem_cons_of_mem _ he)
  exact ⟨x :: xs, rfl, fun y hy => by rcases List.mem_cons.1 hy with rfl | hy; exact hx; exact hxs y hy⟩
theorem typ_slice {α : Type} {r : α → List T} {Q : α → Prop} {e : TypeId} {w : Nat} (hu : P.underlying t = some (.slice e)) (hw : P.cellsOf e = w) (he : ∀ ts, Typ P e ts → ∃ x, ts = r x ∧ Q x) (h : Typ P t ts) : ∃ s : Sl α, ts = [Sl.t r s] ∧ SlW w Q s := by
 cases h with
 | slice _ e' nn l h hn hl h1 h2 =>
  rw [hu] at h; cases h
  obtain ⟨xs, rfl, hq⟩ := rows_open (r := r) (Q := Q) fun es hes => he es (h2 es hes)
  exact ⟨⟨nn, w, xs⟩, by rw [hw]; rfl, rfl, fun hh => by simpa using hn hh, by simpa using hl, hq⟩
 | int _ k' n h hw => rw [hu] at h; simp at h
 | bool _ b h => rw [hu] at h; simp at h
 | str _ s h => rw [hu] at h; simp at h
 | struct _ fs tss h => rw [hu] at h; simp at h
 | array _ n e tss h => rw [hu] at h; simp at h
theorem typ_struct {fs : Array Field} (hu : P.underlying t = some (.struct fs)) (h : Typ P t ts) : ∃ tss : List (List T), ts = tss.flatten ∧ tss.length = fs.toList.length ∧ ∀ (i : Nat) f ts', fs.toList[i]? = some f → tss[i]? = some ts' → Typ P f.type ts' := by
 cases h with
 | struct _ fs' tss h hl hf => rw [hu] at h; cases h; exact ⟨tss, rfl, by simpa using hl, fun i f ts' h1 h2 => hf i f ts' (by simpa using h1) h2⟩
 | int _ k' n h hw => rw [hu] at h; simp at h
 | bool _ b h => rw [hu] at h; simp at h
 | str _ s h => rw [hu] at h; simp at h
 | slice _ e nn l h => rw [hu] at h; simp at h
 | array _ n e tss h => rw [hu] at h; simp at h
theorem typ_array {n : Nat} {e : TypeId} (hu : P.underlying t = some (.array n e)) (h : Typ P t ts) : ∃ tss : List (List T), ts = tss.flatten ∧ tss.length = n ∧ ∀ ts' ∈ tss, Typ P e ts' := by
 cases h with
 | array _ n' e' tss h hl hf => rw [hu] at h; cases h; exact ⟨tss, rfl, hl, hf⟩
 | int _ k' n h hw => rw [hu] at h; simp at h
 | bool _ b h => rw [hu] at h; simp at h
 | str _ s h => rw [hu] at h; simp at h
 | slice _ e nn l h => rw [hu] at h; simp at h
 | struct _ fs tss h => rw [hu] at h; simp at h
theorem typd_agg {ts : List TypeId} {tds : List TD} {d : TypeDesc} (hu : P.underlying t = some d) (ha : isAggD d = true) (h : TypDs P (t :: ts) tds) : ∃ x r, tds = .agg x :: r ∧ Typ P t x ∧ TypDs P ts r := by
 cases h with
 | cons t ts td ds h hr =>
  cases h with
  | agg x h _ => exact ⟨x, ds, rfl, h, hr⟩
  | one xs h h2 => obtain ⟨d', h3, h4⟩ := h2; rw [hu] at h3; cases h3; rw [ha] at h4; simp at h4
theorem typd_nil {tds : List TD} (h : TypDs P [] tds) : tds = [] := by cases h; rfl
end
theorem law_of {E : Env} {n : Nat} {k : FuncId} {tds : List TD} (h : RunsP E n k tds (.fresh, [.one (bT true)])) : ∃ m n kind, (callers E m n).1 k tds = some (kind, [.one (.v (.bool true))]) := by
 obtain ⟨M, hM⟩ := h
 exact ⟨M, n, .fresh, hM M (Nat.le_refl _)⟩
theorem loop_up {A R : Type} {b : A → Option (A ⊕ R)} (n : Nat) (I : Nat → A → Prop) (Q : R → Prop) (hs : ∀ j a, j < n → I j a → (∃ a', b a = some (.inl a') ∧ I (j + 1) a') ∨ ∃ r, b a = some (.inr r) ∧ Q r) (he : ∀ a, I n a → ∃ r, b a = some (.inr r) ∧ Q r) (j : Nat) (hj : j ≤ n) (a : A) (ha : I j a) : ∃ r, loopO b a = some r ∧ Q r := by
 obtain ⟨k, hk⟩ : ∃ k, n = j + k := ⟨n - j, by omega⟩
 induction k generalizing j a with
 | zero =>
  have : j = n := by omega
  subst this
  obtain ⟨r, h1, h2⟩ := he a ha
  exact ⟨r, loopO_done h1, h2⟩
 | succ k ih =>
  rcases hs j a (by omega) ha with ⟨a', h1, h2⟩ | ⟨r, h1, h2⟩
  ·obtain ⟨r, h3, h4⟩ := ih (j + 1) (by omega) a' h2 (by omega)
   exact ⟨r, (loopO_step h1).trans h3, h4⟩
  ·exact ⟨r, loopO_done h1, h2⟩
theorem at_get {α : Type} {w : Nat} {s : Sl α} (hs : s.l = [] ∨ s.sz = w) {j : Nat} (hj : j < s.l.length) : atS w s (j : Int) = some s.l[j] := by
 have hw : s.sz = w := hs.resolve_left (by intro h; rw [h] at hj; simp at hj)
 unfold atS
 rw [if_pos ⟨by omega, hw⟩]
 simp
theorem app_ok {α : Type} {l m : List α} (h : l.length + m.length ≤ bound) : app l m = some (l ++ m) := by unfold app; rw [if_pos h]
theorem w_succ {j n : Nat} (h : j < n) (hn : n ≤ 9223372036854775807) : IntKind.i64.wrap ((j : Int) + 1) = ((j + 1 : Nat) : Int) := by rw [wrap64 (by omega) (by omega)]; rfl
def neL {α : Type} (l : List α) : Option Unit :=
 match l with
 | [] => none
 | _ :: _ => some ()
theorem neL_some {α : Type} {l : List α} (h : l ≠ []) : neL l = some () := by
 cases l with
 | nil => exact absurd rfl h
 | cons a l => rfl
theorem ne_moC {α : Type} {l : List α} {k : Nat} {u : Unit} (h : neL l = some u) : C.own k 0 l.length = moC l k := by
 cases l with
 | nil => simp [neL] at h
 | cons a l => rfl
theorem ne_moL {α : Type} {r : α → List T} {w k : Nat} {l : List α} {u : Unit} (h : neL l = some u) : ([(k, w, l.map (rowC r))] : List B1) = moL r w l k := by
 cases l with
 | nil => simp [neL] at h
 | cons a l => rfl
theorem E_re {nt : Nat} {f : Nat → D} {L : BL} {e : Ex} {Q : Ex → St → Prop} (i : Nat) {v : D} (h : f i = v) (h2 : EndL nt Q e (up f i v) L) : EndL nt Q e f L := by rw [up_self h] at h2; exact h2
theorem E_reS {nt : Nat} {f : Nat → D} {L : BL} {e : Ex} {Q : Ex → St → Prop} (q : Nat) {s s' : List B1} (hq : L[q]? = some s) (he : s = s') (h : EndL nt Q e f (L.set q s')) : EndL nt Q e f L := by subst he; rw [set_same hq] at h; exact h
end Ev
end Go.Proofs.YtnikcjnkcjondaaDoor
end
section
namespace Go.Proofs.YtnikcjnkcjondaaDoor
namespace Ev
open Go Go.RowKit
set_option linter.unusedVariables false
set_option linter.unusedSimpArgs false
section
variable {E : Env} {y : Nat → YldP} {n nt : Nat} {f : Nat → D} {L : BL}
def capsOf (nt : Nat) (f : Nat → D) (l : List Operand) : Option (List C) := l.mapM fun x => do match ← ov nt f x with | .one c => some c | _ => none
theorem q_mkfun {fn : Fn} {first cap : Array Operand} {fs cs : List C} (h1 : capsOf nt f first.toList = some fs) (h2 : capsOf nt f cap.toList = some cs) : PS E n nt f L (.makeFunc fn first cap) (.one (.clo fn fs cs)) := fun h nid hb => by
 show ((first.toList.mapM fun x => (opndG (slots (tab nt f)) x).bind fun d => match d with | .one c => some c | _ => none).bind fun a => (cap.toList.mapM fun x => (opndG (slots (tab nt f)) x).bind fun d => match d with | .one c => some c | _ => none).bind fun b => some (⟨.one (.clo fn a b), []⟩ : Eff)) = _
 rw [ov_fun]
 have h1' : (first.toList.mapM fun x => (ov nt f x).bind fun d => match d with | .one c => some c | _ => none) = some fs := h1
 have h2' : (cap.toList.mapM fun x => (ov nt f x).bind fun d => match d with | .one c => some c | _ => none) = some cs := h2
 rw [h1', h2']; rfl
def unvC : C → Bool
 | .p _ _ => false
 | .own _ _ _ => false
 | _ => true
def unv : D → Bool
 | .one c => unvC c
 | .agg cs => cs.any unvC
 | .tup _ => true
theorem view_unv {h : Heap} {c : C} (hc : unvC c = true) (m : Nat) : view h (m + 1) c = none := by
 cases c <;> simp [unvC] at hc <;> rfl
theorem mapM_none {α β : Type} {g : α → Option β} : ∀ {l : List α}, (∃ x ∈ l, g x = none) → l.mapM g = none
 | [], h => by obtain ⟨x, hx, _⟩ := h; simp at hx
 | a :: l, h => by
  rw [List.mapM_cons]
  cases ha : g a with
  | none => rfl
  | some b =>
   obtain ⟨x, hx, hg⟩ := h
   rcases List.mem_cons.1 hx with rfl | hx
   ·rw [ha] at hg; simp at hg
   ·rw [mapM_none ⟨x, hx, hg⟩]; rfl
theorem viewD_unv {h : Heap} {d : D} (hd : unv d = true) : viewD h d = none := by
 cases d with
 | one c =>
  show (view h 6 c).bind _ = none
  rw [view_unv hd]; rfl
 | agg cs =>
  obtain ⟨c, hc, hu⟩ := List.any_eq_true.1 hd
  show (cs.mapM (view h 6)).bind _ = none
  rw [mapM_none ⟨c, hc, view_unv hu 5⟩]; rfl
 | tup ds => rfl
theorem views_unv {h : Heap} {ds : List D} (hd : ds.any unv = true) : ds.mapM (viewD h) = none := by
 obtain ⟨d, h1, h2⟩ := List.any_eq_true.1 hd
 exact mapM_none ⟨d, h1, viewD_unv h2⟩
def fA (args : List D) : Nat → D := fun i => args.getD i undefD
theorem tab_fA {args : List D} {k : Nat} (hl : args.length ≤ k) : args ++ List.replicate (k - args.length) undefD = tab k (fA args) := by
 rw [tab_of (args ++ List.replicate (k - args.length) undefD)]
 have hlen : (args ++ List.replicate (k - args.length) undefD).length = k := by simp; omega
 rw [hlen]
 refine List.ext_getElem? fun i => ?_
 rw [tab_get, tab_get]
 split
 ·rename_i hi
  congr 1
  unfold fA
  rw [List.getD_eq_getElem?_getD, List.getD_eq_getElem?_getD, List.getElem?_append]
  split
  ·rfl
  ·rename_i hge
   rw [List.getElem?_replicate, if_pos (by omega), List.getElem?_eq_none (by omega)]; rfl
 ·rfl
def callQ (E : Env) (y : Nat → YldP) (n nt : Nat) (ops : Array Oper) (r : List Oper) (K : St → Prop) (f : Nat → D) (d : Nat) (rv : List ResultVar) : Ex → St → Prop := fun e s => (e = .normal ∨ e = .ret) ∧ ∃ ds, rv.mapM (resultD E s) = some ds ∧ OpsW E y n ops r K { t := tab nt (up f d (tupD ds)), h := s.h }
variable {ops : Array Oper} {o : Oper} {r : List Oper} {K : St → Prop} {d : Nat} {Q : Ex → St → Prop}
theorem want_wanted {b : Bool} (h : wantF ops o nt f = some b) : wantedD ops (slots (tab nt f)) o = some b := by
 obtain ⟨g, g1, g2⟩ := wantF_eq h
 unfold gOf at g1
 unfold wantedD
 cases ho : o.guard with
 | none => rw [ho] at g1; simp only [Option.some.injEq] at g1; subst g1; exact g2
 | some p =>
  obtain ⟨j, w⟩ := p
  rw [ho] at g1
  simp only [Option.map_eq_some_iff] at g1
  obtain ⟨d, h1, h2⟩ := g1
  subst h2
  rw [Option.bind_eq_some_iff] at h1
  obtain ⟨o', h3, h4⟩ := h1
  have h3' : ops[j]? = some o' := by simpa using h3
  simp only [h3', h4, Option.bind_eq_bind, Option.bind_some]
  exact g2
theorem step_call {cp : CallP} {c : Call} {nid : Nat} {H : Heap} (hw : wantF ops o nt f = some true) (hc : isCall o.op = some c) : step E cp ops nid o (slots (tab nt f)) H = pcall cp nid c (slots (tab nt f)) H := by
 unfold step
 rw [want_wanted hw]
 simp only [Option.bind_eq_bind, Option.bind_some, if_true, hc]
theorem ol_scall {c : Call} {k : FuncId} {args : List D} {fi : FI} (hw : wantF ops o nt f = some true) (hc : isCall o.op = some c) (hr : resolveD c (ov nt f) = some (k, args)) (hu : args.any unv = true) (hf : E.fn k = some fi) (hl : Nat.ble args.length fi.nt = true) (hd : o.dst = some d) (hn : Nat.blt d nt = true)
  (h : WpL E nY n fi.nt fi.body (callQ E y (n + 1) nt ops r K f d fi.results) (fA args) L) : OpsL E y (n + 1) nt ops (o :: r) K f L := fun H hb => by
 obtain ⟨e, s', ⟨M, h1⟩, h2, ds, h3, h4⟩ := h H hb
 refine opsW_cons (s1 := { t := tab nt (up f d (tupD ds)), h := s'.h }) ⟨M, fun m hm => ?_⟩ h4
 unfold evOp
 have hs : step E (callersY E y m (n + 1)).1 ops H.length o (slots (tab nt f)) H = none := by
  rw [step_call hw hc]
  unfold pcall
  rw [ov_fun, hr]
  simp only [Option.bind_eq_bind, Option.bind_some, views_unv hu]
  rfl
 simp only
 rw [hs]
 have hev := h1 m hm
 have hsc : scall (callersY E y m (n + 1)).2 ops o { t := tab nt f, h := H } = some { t := tab nt (up f d (tupD ds)), h := s'.h } := by
  unfold scall
  rw [want_wanted hw]
  simp only [Option.bind_eq_bind, Option.bind_some, if_true, hc]
  have hr' : resolveD c (opnd (tab nt f)) = some (k, args) := by
   show resolveD c (opndG (slots (tab nt f))) = _
   rw [ov_fun]; exact hr
  rw [hr']
  have hcall : (callersY E y m (n + 1)).2.f k args H = some (tupD ds, s'.h) := by
   show ((E.fn k).bind fun f => (evFn E (callersN E m n).1 ⟨(callersN E m n).2.1, (callersN E m n).2.2, noY⟩ m f args H).bind fun x => some (tupD x.1, x.2)) = _
   rw [hf]
   simp only [Option.bind_some]
   have : evFn E (callersN E m n).1 ⟨(callersN E m n).2.1, (callersN E m n).2.2, noY⟩ m fi args H = some (ds, s'.h) := by
    unfold evFn
    rw [tab_fA (Nat.le_of_ble_eq_true hl)]
    simp only [callersY] at hev
    rw [hev]
    rcases h2 with rfl | rfl <;> simp [h3]
   rw [this]; rfl
  simp only [Option.bind_some, hcall, hd, setT, tab_len, blt_lt hn, if_true, tab_set, up_eq]
 rw [hsc]; rfl
theorem ol_scallN {c : Call} {k : FuncId} {args : List D} {fi : FI} (hw : wantF ops o nt f = some true) (hc : isCall o.op = some c) (hr : resolveD c (ov nt f) = some (k, args)) (hu : E.ax k = some fun _ => none) (hf : E.fn k = some fi) (hl : Nat.ble args.length fi.nt = true) (hd : o.dst = some d) (hn : Nat.blt d nt = true)
  (h : WpL E nY n fi.nt fi.body (callQ E y (n + 1) nt ops r K f d fi.results) (fA args) L) : OpsL E y (n + 1) nt ops (o :: r) K f L := fun H hb => by
 obtain ⟨e, s', ⟨M, h1⟩, h2, ds, h3, h4⟩ := h H hb
 refine opsW_cons (s1 := { t := tab nt (up f d (tupD ds)), h := s'.h }) ⟨M, fun m hm => ?_⟩ h4
 unfold evOp
 have hs : step E (callersY E y m (n + 1)).1 ops H.length o (slots (tab nt f)) H = none := by
  rw [step_call hw hc]
  unfold pcall
  rw [ov_fun, hr]
  simp only [Option.bind_eq_bind, Option.bind_some]
  cases args.mapM (viewD H) with
  | none => rfl
  | some vs =>
   have hn : (callersY E y m (n + 1)).1 k (vs.map (·.2)) = none := by
    show (match E.ax k with
     | some F => F _
     | none => _) = none
    rw [hu]
   simp only [Option.bind_some, hn]
   rfl
 simp only
 rw [hs]
 have hev := h1 m hm
 have hsc : scall (callersY E y m (n + 1)).2 ops o { t := tab nt f, h := H } = some { t := tab nt (up f d (tupD ds)), h := s'.h } := by
  unfold scall
  rw [want_wanted hw]
  simp only [Option.bind_eq_bind, Option.bind_some, if_true, hc]
  have hr' : resolveD c (opnd (tab nt f)) = some (k, args) := by
   show resolveD c (opndG (slots (tab nt f))) = _
   rw [ov_fun]; exact hr
  rw [hr']
  have hcall : (callersY E y m (n + 1)).2.f k args H = some (tupD ds, s'.h) := by
   show ((E.fn k).bind fun f => (evFn E (callersN E m n).1 ⟨(callersN E m n).2.1, (callersN E m n).2.2, noY⟩ m f args H).bind fun x => some (tupD x.1, x.2)) = _
   rw [hf]
   simp only [Option.bind_some]
   have : evFn E (callersN E m n).1 ⟨(callersN E m n).2.1, (callersN E m n).2.2, noY⟩ m fi args H = some (ds, s'.h) := by
    unfold evFn
    rw [tab_fA (Nat.le_of_ble_eq_true hl)]
    simp only [callersY] at hev
    rw [hev]
    rcases h2 with rfl | rfl <;> simp [h3]
   rw [this]; rfl
  simp only [Option.bind_some, hcall, hd, setT, tab_len, blt_lt hn, if_true, tab_set, up_eq]
 rw [hsc]; rfl
theorem E_call {nt' : Nat} {f' : Nat → D} {L' : BL} {rv : List ResultVar} {ds : List D} {e : Ex} {v : D} (he : e = .normal ∨ e = .ret) (hr : ResL E nt' f' L' rv ds) (hv : tupD ds = v) (h : OpsL E y n nt ops r K (up f d v) L') : EndL nt' (callQ E y n nt ops r K f d rv) e f' L' := fun H hb => by
 subst hv
 exact ⟨he, ds, hr H hb, h H hb⟩
def roundY (E : Env) (y : Nat → YldP) (n k : Nat) (t : List D) (ps : List Tmp) (asg body : Code) : Nat → YldP := fun m j args h =>
 if j = k ∧ args.length = ps.length then do
  let (e, s1) ← evC E (callersY E y m n).1 (callersY E y m n).2 m asg { t := setPs t ps args, h := h }
  match e with
  | .normal => do
   let (e, s2) ← evC E (callersY E y m n).1 (callersY E y m n).2 m body s1
   some (e, s2.h)
  | _ => none
 else none
def rangeQ (nt : Nat) (f : Nat → D) (k : Nat) (Q : Ex → St → Prop) : Ex → St → Prop := fun e s => (e = .normal ∨ e = .ret) ∧ ∃ es, getBlk s.h k = some (0, es) ∧ Q (yout es) { t := tab nt f, h := s.h }
theorem L_range {g : Operand} {ps : Array Tmp} {asg body : Code} {k : FuncId} {fs cs : List C} {fi : FI} (hg : ov nt f g = some (.one (.clo (.func k) fs cs))) (hf : E.fn k = some fi) (hl : Nat.ble (fs.length + 1 + cs.length) fi.nt = true) (hres : fi.results = [])
  (h : ∀ kl, WpL E (roundY E y (n + 1) kl (tab nt f) ps.toList asg body) n fi.nt fi.body (rangeQ nt f kl Q) (fA (fs.map D.one ++ [D.one (.yld kl)] ++ cs.map D.one)) ([(kl, 0, [])] :: L)) : WpL E y (n + 1) nt (.rangeFunc g ps asg body) Q f L := fun H hb => by
 obtain ⟨e, s', ⟨M, h1⟩, h2, es, h3, h4⟩ := h H.length _ (hb.new 0 [])
 refine ⟨yout es, { t := tab nt f, h := s'.h }, ⟨M, fun m hm => ?_⟩, h4⟩
 have hev := h1 m hm
 have hg' : opnd (tab nt f) g = some (.one (.clo (.func k) fs cs)) := (ov_eq nt f g).trans hg
 simp only [evC, Option.bind_eq_bind, hg', Option.bind_some]
 have hcall : (callersY E y m (n + 1)).2.r (roundY E y (n + 1) H.length (tab nt f) ps.toList asg body m) k (fs.map D.one ++ [D.one (.yld H.length)] ++ cs.map D.one) (putBlk H H.length (.own 0 [])) = some s'.h := by
  show ((E.fn k).bind fun f => (evFn E (callersN E m n).1 ⟨(callersN E m n).2.1, (callersN E m n).2.2, roundY E y (n + 1) H.length (tab nt _) ps.toList asg body m⟩ m f _ _).bind fun x => some x.2) = _
  rw [hf]
  simp only [Option.bind_some]
  have : evFn E (callersN E m n).1 ⟨(callersN E m n).2.1, (callersN E m n).2.2, roundY E y (n + 1) H.length (tab nt f) ps.toList asg body m⟩ m fi (fs.map D.one ++ [D.one (.yld H.length)] ++ cs.map D.one) (putBlk H H.length (.own 0 [])) = some ([], s'.h) := by
   unfold evFn
   rw [tab_fA (by have := Nat.le_of_ble_eq_true hl; simp; omega)]
   simp only [callersY] at hev
   rw [hev, hres]
   rcases h2 with rfl | rfl <;> rfl
  rw [this]; rfl
 refine (congrArg (fun z : Option Heap => z.bind fun h => (getBlk h H.length).bind fun x => if x.1 = 0 then some (yout x.2, ({ t := tab nt f, h := h } : St)) else none) hcall).trans ?_
 simp only [Option.bind_some, h3, if_true]
theorem E_range {nt' k p : Nat} {f' : Nat → D} {L' : BL} {es : List (List C)} {e : Ex} (he : e = .normal ∨ e = .ret) (hp : L'[p]? = some [(k, 0, es)]) (h : EndL nt Q (yout es) f L') : EndL nt' (rangeQ nt f k Q) e f' L' := fun H hb => ⟨he, es, hb.get hp, h H hb⟩
def thenR (K : St → Prop) : Ex → St → Prop := fun e s => e = .normal ∧ K s
def roundQ (E : Env) (y : Nat → YldP) (n nt : Nat) (ops : Array Oper) (r : List Oper) (K : St → Prop) (f : Nat → D) (d k : Nat) : Ex → St → Prop := fun e s => OpsW E y n ops r K { t := tab nt (up f d (bD (e == .normal))), h := putBlk s.h k (yblk e) }
def setF (f : Nat → D) : List Tmp → List D → Nat → D
 | p :: ps, d :: ds => setF (up f p d) ps ds
 | _, _ => f
theorem tab_set' (f : Nat → D) (p : Nat) (d : D) : (tab nt f).set p d = tab nt (up f p d) := by
 rw [← up_eq]
 refine List.ext_getElem? fun i => ?_
 rw [List.getElem?_set, tab_get, tab_get, tab_len]
 unfold upd
 by_cases h1 : p = i
 ·subst h1
  by_cases h2 : p < nt
  ·simp [h2]
  ·simp [h2]
 ·rw [if_neg h1]
  split
  ·rw [if_neg (fun e : i = p => h1 e.symm)]
  ·rfl
theorem setPs_tab : ∀ (ps : List Tmp) (ds : List D) (f : Nat → D), setPs (tab nt f) ps ds = tab nt (setF f ps ds)
 | [], [], f => by simp [setPs, setF]
 | [], d :: ds, f => by simp [setPs, setF]
 | p :: ps, [], f => by simp [setPs, setF]
 | p :: ps, d :: ds, f => by
  simp only [setPs, setF]
  rw [tab_set', setPs_tab]
def argsOf (nt : Nat) (f : Nat → D) (l : List Operand) : Option (List D) := l.mapM (ov nt f)
theorem ol_yield {y0 : Nat → YldP} {n0 nt0 k p : Nat} {f0 : Nat → D} {ps : List Tmp} {asg body : Code} {c : Call} {x : Operand} {args : List D} (hw : wantF ops o nt f = some true) (hc : isCall o.op = some c) (hcal : c.callee = .value x) (hx : ov nt f x = some (.one (.yld k))) (ha : argsOf nt f c.args.toList = some args) (hla : Nat.beq args.length ps.length = true) (hp : L[p]? = some [(k, 0, [])]) (hd : o.dst = some d) (hn : Nat.blt d nt = true)
  (h : WpL E y0 n0 nt0 asg (thenR (WpC E y0 n0 body (roundQ E (roundY E y0 n0 k (tab nt0 f0) ps asg body) n nt ops r K f d k))) (setF f0 ps args) L) : OpsL E (roundY E y0 n0 k (tab nt0 f0) ps asg body) n nt ops (o :: r) K f L := fun H hb => by
 obtain ⟨e1, s1, ⟨M1, h1⟩, rfl, e2, s2, ⟨M2, h2⟩, h3⟩ := h H hb
 refine opsW_cons (s1 := { t := tab nt (up f d (bD (e2 == .normal))), h := putBlk s2.h k (yblk e2) }) ⟨max M1 M2, fun m hm => ?_⟩ h3
 have hres : resolveD c (opndG (slots (tab nt f))) = none := by
  rw [ov_fun]
  unfold resolveD
  rw [hcal]
  have ha' : c.args.toList.mapM (ov nt f) = some args := ha
  simp only [ha', hx, Option.bind_eq_bind, Option.bind_some]
 unfold evOp
 have hs : step E (callersY E (roundY E y0 n0 k (tab nt0 f0) ps asg body) m n).1 ops H.length o (slots (tab nt f)) H = none := by
  rw [step_call hw hc]
  unfold pcall
  rw [hres]; rfl
 simp only
 rw [hs]
 have hsc : scall (callersY E (roundY E y0 n0 k (tab nt0 f0) ps asg body) m n).2 ops o { t := tab nt f, h := H } = none := by
  unfold scall
  rw [want_wanted hw]
  simp only [Option.bind_eq_bind, Option.bind_some, if_true, hc]
  have hr' : resolveD c (opnd (tab nt f)) = none := hres
  rw [hr']; rfl
 have hy : ycall (callersY E (roundY E y0 n0 k (tab nt0 f0) ps asg body) m n).2 ops o { t := tab nt f, h := H } = some { t := tab nt (up f d (bD (e2 == .normal))), h := putBlk s2.h k (yblk e2) } := by
  unfold ycall
  rw [want_wanted hw]
  simp only [Option.bind_eq_bind, Option.bind_some, if_true, hc, hcal]
  have ha' : c.args.toList.mapM (opnd (tab nt f)) = some args := by
   show c.args.toList.mapM (opndG (slots (tab nt f))) = _
   rw [ov_fun]; exact ha
  have hx' : opnd (tab nt f) x = some (.one (.yld k)) := (ov_eq nt f x).trans hx
  rw [ha', hx']
  simp only [Option.bind_some, hb.get hp, and_self, if_true]
  have hround : (callersY E (roundY E y0 n0 k (tab nt0 f0) ps asg body) m n).2.y k args H = some (e2, s2.h) := by
   show roundY E y0 n0 k (tab nt0 f0) ps asg body m k args H = _
   unfold roundY
   rw [if_pos ⟨rfl, Nat.eq_of_beq_eq_true hla⟩, setPs_tab, h1 m (by omega)]
   simp only [Option.bind_eq_bind, Option.bind_some]
   rw [h2 m (by omega)]; rfl
  rw [hround]
  simp only [Option.bind_some, hd, setT, tab_len, blt_lt hn, if_true, tab_set, up_eq]
  rfl
 rw [hsc, hy]; rfl
theorem E_asg {c : Code} (h : WpL E y n nt c Q f L) : EndL nt (thenR (WpC E y n c Q)) .normal f L := fun H hb => ⟨rfl, h H hb⟩
theorem getBlk_own {h : Heap} {k sz : Nat} {es : List (List C)} (hk : getBlk h k = some (sz, es)) : h[k]? = some (.own sz es) := getBlk_some hk
theorem E_roundN {nt' k p : Nat} {f' : Nat → D} (hp : L[p]? = some [(k, 0, [])]) (h : OpsL E y n nt ops r K (up f d (bD true)) L) : EndL nt' (roundQ E y n nt ops r K f d k) .normal f' L := fun H hb => by
 have := put_same (getBlk_own (hb.get hp))
 show OpsW E y n ops r K { t := _, h := putBlk H k (.own 0 []) }
 rw [this]
 exact h H hb
theorem E_roundX {nt' k p : Nat} {f' : Nat → D} {e : Ex} {es : List (List C)} {L' : BL} (he : (e == .normal) = false) (hes : List.replicate (ycode e) [] = es) (hp : L[p]? = some [(k, 0, [])]) (hL : L.set p [(k, 0, es)] = L') (h : OpsL E y n nt ops r K (up f d (bD false)) L') : EndL nt' (roundQ E y n nt ops r K f d k) e f' L := fun H hb => by
 subst hes hL
 show OpsW E y n ops r K { t := tab nt (up f d (bD (e == .normal))), h := putBlk H k (.own 0 _) }
 rw [he]
 exact h _ (hb.set hp 0 _)
end
theorem ne_new {k b j : Nat} (h : k < b) : k ≠ b + j := by omega
theorem ne_add {b i j : Nat} (h : Nat.beq i j = false) : b + i ≠ b + j := by have := Nat.ne_of_beq_eq_false h; omega
theorem nin_nil {k : Nat} : k ∉ ([] : List Nat) := by simp
theorem nin_cons {k m : Nat} {l : List Nat} (h1 : k ≠ m) (h2 : k ∉ l) : k ∉ m :: l := fun h => by
 rcases List.mem_cons.1 h with h | h
 ·exact h1 h
 ·exact h2 h
theorem ltK_nil {b : Nat} : ∀ k ∈ ([] : List Nat), k < b := fun k h => by simp at h
theorem ltK_cons {b m : Nat} {l : List Nat} (h1 : m < b) (h2 : ∀ k ∈ l, k < b) : ∀ k ∈ m :: l, k < b := fun k h => by
 rcases List.mem_cons.1 h with h | h
 ·subst h; exact h1
 ·exact h2 k h
theorem ltO_nil {b : Nat} : ∀ l ∈ ([] : List (List Nat)), ∀ k ∈ l, k < b := fun k h => by simp at h
theorem ltO_cons {b : Nat} {a : List Nat} {O : List (List Nat)} (h1 : ∀ k ∈ a, k < b) (h2 : ∀ l ∈ O, ∀ k ∈ l, k < b) : ∀ l ∈ a :: O, ∀ k ∈ l, k < b := fun l h => by
 rcases List.mem_cons.1 h with h | h
 ·subst h; exact h1
 ·exact h2 l h
theorem djE {O : List (List Nat)} {r : List Nat} : ∀ j ∈ r, ∀ x ∈ ([] : List Nat), x ∉ O.getD j [] := fun c _ x h => by simp at h
theorem djN {O : List (List Nat)} {a : List Nat} : ∀ j ∈ ([] : List Nat), ∀ x ∈ a, x ∉ O.getD j [] := fun c h => by simp at h
section
variable {X Up KT : Type} {nt : Nat}
def JE (nt : Nat) (ex : Ex) (S : X → KT → (Nat → D) → Nat → D) (SL : X → KT → BL) (J : Up → Ex → St → Prop) : X ⊕ Up → Ex → St → Prop
 | .inl x, e, s => e = ex ∧ ∃ k g, s.t = tab nt (S x k g) ∧ HB s.h (SL x k)
 | .inr u, e, s => J u e s
def JU (G : Up → Ex → St → Prop) : Up → Ex → St → Prop := fun u e s => e = .ret ∧ G u .ret s
variable {ex : Ex} {S : X → KT → (Nat → D) → Nat → D} {SL : X → KT → BL} {J : Up → Ex → St → Prop} {G : Up → Ex → St → Prop}
theorem JE_n (h : (ex == .normal) = false) (hJ : ∀ r s, ¬ J r .normal s) : ∀ r s, ¬ JE nt ex S SL J r .normal s := fun r s hh => by
 cases r with
 | inl x => rw [← hh.1] at h; simp at h
 | inr u => exact hJ u s hh
theorem JU_n : ∀ r s, ¬ JU G r .normal s := fun r s h => absurd h.1 (by simp)
theorem E_je {x : X} {f : Nat → D} {L : BL} (k : KT) (hf : f = S x k f) (is : List Nat) (hn : is.Nodup) (hL : is.filterMap (fun i => L[i]?) = SL x k) : EndL nt (JE nt ex S SL J (.inl x)) ex f L := fun H hb => ⟨rfl, k, f, congrArg (tab nt) hf, hb.sub is hn hL⟩
theorem E_js {u : Up} {e : Ex} {f : Nat → D} {L : BL} (h : EndL nt (J u) e f L) : EndL nt (JE nt ex S SL J (.inr u)) e f L := h
theorem J_e {x : X} {Q : Ex → St → Prop} (h : ∀ k g, EndL nt Q ex (S x k g) (SL x k)) : ∀ e s, JE nt ex S SL J (.inl x) e s → Q e s := fun e s hs => by
 obtain ⟨rfl, k, g, h1, h2⟩ := hs
 obtain ⟨t, H⟩ := s
 simp only at h1 h2
 subst h1
 exact h k g H h2
theorem J_s {u : Up} {Q : Ex → St → Prop} (h : ∀ e s, J u e s → Q e s) : ∀ e s, JE nt ex S SL J (.inr u) e s → Q e s := h
end
end Ev
end Go.Proofs.YtnikcjnkcjondaaDoor
end
section
namespace Go.Proofs.YtnikcjnkcjondaaDoor
namespace Ev
open Go Go.ChangeShapes Go.WideShapes Go.ChangeAt Go.WideMaps Go.WideElems Go.RowKit Go.Joins
theorem ownD : ownKnob Tryd.prog.godebug = none := by kernel_rfl
theorem laidOutD : laidOutB Tryd.prog = true := by kernel_rfl
theorem gTab : Tryd.prog.globalNamed "math/bits.deBruijn64tab" = some 0 := by kernel_rfl
theorem tTab : (Tryd.prog.globals[0]?).map (·.type) = some 123 := by kernel_rfl
theorem cByte : Tryd.prog.cellsOf 5 = 1 := by kernel_rfl
theorem cTab : Tryd.prog.cellsOf 123 = 64 := by kernel_rfl
abbrev laidL {H : Type} : List (String × DataW H) := [("math/bits.deBruijn64tab", Rows.laid_math_bits_deBruijn64tab)]
theorem door_met (os : Os) (args : Array Value) : laidMetH Tryd.prog laidL ((World.doorLaid Tryd.prog 400 os).forCall (fun _ _ => 0) ⟨#[], args, []⟩).memory :=
 laidMetH_of_parts3 (fuel := 8) (laidMet_of_run' 8 (by kernel_rfl) (by kernel_rfl)) (by kernel_rfl) (by kernel_rfl)
def datTab {H : Type} : List (DataW H) := Lib.deBruijn64tab.map fun n => .lit (.int .u8 (n : Nat))
theorem laid_eq {H : Type} : (Rows.laid_math_bits_deBruijn64tab : DataW H) = .agg datTab := rfl
theorem tab_of_laid {W : World} (h : laidMetH Tryd.prog laidL W) : TabW W := by
 rw [MakeChecks.laidMetH_plain _ _ _ (by kernel_rfl)] at h
 obtain ⟨ps, ⟨g0, t0, cs0, f0, p0, q0, hg0, ht0, hv0, hd0, _, _⟩, _, _⟩ := h
 obtain rfl := Option.some.inj (gTab.symm.trans hg0)
 obtain rfl := Option.some.inj (tTab.symm.trans ht0)
 obtain ⟨xs, m, _, hx, hlen, hxl, hel⟩ := DataW.trod_array Tryd.underlying123 hd0
 rw [cTab] at hlen
 have hx1 := (Prod.mk.inj hx).1
 rw [laid_eq] at hx1
 have hx2 : datTab = xs.map (·.1) := by injection hx1
 have cell := fun k => World.var?_cell hg0 hv0 k
 have hsz : cs0.size = 64 := by simpa using hlen
 have key : ∀ j, j < 64 → cs0[j]? = some (.int .u8 (Lib.deBruijn64tab.getD j 0 : Nat)) := by
  intro j hj
  have hj' : xs[j]? = some (xs[j]'(by omega)) := List.getElem?_eq_getElem (by omega)
  have h1 := hel j hj
  rw [cByte, hj'] at h1
  have hcs : (cs0.toList.drop (j * 1)).take 1 = [cs0[j]'(by omega)] := by
   rw [Nat.mul_one, List.drop_eq_getElem_cons (by simp; omega)]
   simp
  rw [hcs] at h1
  obtain ⟨a, e1, e2, _⟩ := DataW.trod_int Tryd.underlying5 h1
  have h3 : (datTab (H := Unit))[j]? = some ((xs[j]'(by omega)).1) := by rw [hx2, List.getElem?_map, hj']; rfl
  rw [e2] at h3
  have h4 : (datTab (H := Unit))[j]? = some (.lit (.int .u8 (Lib.deBruijn64tab.getD j 0 : Nat))) := by
   have hl : Lib.deBruijn64tab.length = 64 := rfl
   unfold datTab
   rw [List.getElem?_map, List.getElem?_eq_getElem (by rw [hl]; exact hj), List.getD_eq_getElem?_getD, List.getElem?_eq_getElem (by rw [hl]; exact hj)]
   rfl
  rw [h3] at h4
  have h5 : a = (Lib.deBruijn64tab.getD j 0 : Nat) := by
   injection h4 with h4
   injection h4 with h4
   injection h4
  rw [Array.getElem?_eq_getElem (by omega)]
  simp only [List.cons.injEq, and_true] at e1
  rw [e1, h5]
 have hl : Lib.deBruijn64tab.length = 64 := rfl
 have c0 : ∀ j, j < Lib.deBruijn64tab.length → W.cell? ⟨0, j, none⟩ = some (.int .u8 (Lib.deBruijn64tab.getD j 0 : Nat)) := fun j hj => by
  rw [hl] at hj
  have := cell j
  rw [this]
  exact key j hj
 exact ⟨block_lt_of_cell (c0 0 (by rw [hl]; decide)), c0⟩
end Ev
end Go.Proofs.YtnikcjnkcjondaaDoor
end
