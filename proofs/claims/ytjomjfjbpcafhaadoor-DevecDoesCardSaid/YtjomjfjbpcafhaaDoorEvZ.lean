/- Short names for steps that come often. No program is named here. -/
import Derived.Test.YtjomjfjbpcafhaaDoorEvS5
namespace Go.Proofs.YtjomjfjbpcafhaaDoor
namespace Ev
open Go Go.RowKit
set_option linter.unusedVariables false
set_option linter.unusedSimpArgs false
abbrev bf : D := .one (bC false)
abbrev bt : D := .one (bC true)
abbrev iO (n : Int) : D := .one (iC .i64 n)
abbrev bO (b : Bool) : D := .one (bC b)
abbrev iI (n : Int) : C := iC .i64 n
abbrev uI (n : Int) : C := iC .u64 n
abbrev nC : C := .p true (.s false 0 [])
abbrev sC {α : Type} (r : α → List T) (s : Sl α) : C := .p true (Sl.t r s)
abbrev sF {α : Type} (r : α → List T) (s : Sl α) : C := .p false (Sl.t r s)
theorem sj {α : Type} {a b : α} (h : some a = some b) : a = b := Option.some.inj h
theorem wF {α : Type} {a b : α} {r : α} (h : (if false = true then a else b) = r) : b = r := h
theorem wT {α : Type} {a b : α} {r : α} (h : (if true = true then a else b) = r) : a = r := h
theorem p_lss_tZ {P : Program} {t : TypeId} {x y : Operand} {k : IntKind} {a b : Int} (h : a < b) : pureOf P (do eqGuard .lss t x y (.int k a) (.int k b); binOp .lss t (.int k a) (.int k b)) = some (.bool true) := p_lss_t P t x y k h
theorem p_lss_fZ {P : Program} {t : TypeId} {x y : Operand} {k : IntKind} {a b : Int} (h : ¬ a < b) : pureOf P (do eqGuard .lss t x y (.int k a) (.int k b); binOp .lss t (.int k a) (.int k b)) = some (.bool false) := p_lss_f P t x y k h
theorem p_leq_tZ {P : Program} {t : TypeId} {x y : Operand} {k : IntKind} {a b : Int} (h : a ≤ b) : pureOf P (do eqGuard .leq t x y (.int k a) (.int k b); binOp .leq t (.int k a) (.int k b)) = some (.bool true) := p_leq_t P t x y k h
theorem p_leq_fZ {P : Program} {t : TypeId} {x y : Operand} {k : IntKind} {a b : Int} (h : ¬ a ≤ b) : pureOf P (do eqGuard .leq t x y (.int k a) (.int k b); binOp .leq t (.int k a) (.int k b)) = some (.bool false) := p_leq_f P t x y k h
theorem p_gtr_tZ {P : Program} {t : TypeId} {x y : Operand} {k : IntKind} {a b : Int} (h : a > b) : pureOf P (do eqGuard .gtr t x y (.int k a) (.int k b); binOp .gtr t (.int k a) (.int k b)) = some (.bool true) := p_gtr_t P t x y k h
theorem p_gtr_fZ {P : Program} {t : TypeId} {x y : Operand} {k : IntKind} {a b : Int} (h : ¬ a > b) : pureOf P (do eqGuard .gtr t x y (.int k a) (.int k b); binOp .gtr t (.int k a) (.int k b)) = some (.bool false) := p_gtr_f P t x y k h
theorem p_geq_tZ {P : Program} {t : TypeId} {x y : Operand} {k : IntKind} {a b : Int} (h : a ≥ b) : pureOf P (do eqGuard .geq t x y (.int k a) (.int k b); binOp .geq t (.int k a) (.int k b)) = some (.bool true) := p_geq_t P t x y k h
theorem p_geq_fZ {P : Program} {t : TypeId} {x y : Operand} {k : IntKind} {a b : Int} (h : ¬ a ≥ b) : pureOf P (do eqGuard .geq t x y (.int k a) (.int k b); binOp .geq t (.int k a) (.int k b)) = some (.bool false) := p_geq_f P t x y k h
theorem p_eql_tZ {P : Program} {t : TypeId} {x y : Operand} {k : IntKind} {a b : Int} (h : a = b) : pureOf P (do eqGuard .eql t x y (.int k a) (.int k b); binOp .eql t (.int k a) (.int k b)) = some (.bool true) := p_eql_t P t x y k h
theorem p_eql_fZ {P : Program} {t : TypeId} {x y : Operand} {k : IntKind} {a b : Int} (h : ¬ a = b) : pureOf P (do eqGuard .eql t x y (.int k a) (.int k b); binOp .eql t (.int k a) (.int k b)) = some (.bool false) := p_eql_f P t x y k h
theorem p_neq_tZ {P : Program} {t : TypeId} {x y : Operand} {k : IntKind} {a b : Int} (h : a ≠ b) : pureOf P (do eqGuard .neq t x y (.int k a) (.int k b); binOp .neq t (.int k a) (.int k b)) = some (.bool true) := p_neq_t P t x y k h
theorem p_neq_fZ {P : Program} {t : TypeId} {x y : Operand} {k : IntKind} {a b : Int} (h : ¬ a ≠ b) : pureOf P (do eqGuard .neq t x y (.int k a) (.int k b); binOp .neq t (.int k a) (.int k b)) = some (.bool false) := p_neq_f P t x y k h
theorem p_addY {P : Program} {t : TypeId} {x y : Operand} {k : IntKind} {a b : Int} : pureOf P (do eqGuard .add t x y (.int k a) (.int k b); binOp .add t (.int k a) (.int k b)) = some (.int k (k.wrap (a + b))) := p_add P t x y k a b
theorem p_subY {P : Program} {t : TypeId} {x y : Operand} {k : IntKind} {a b : Int} : pureOf P (do eqGuard .sub t x y (.int k a) (.int k b); binOp .sub t (.int k a) (.int k b)) = some (.int k (k.wrap (a - b))) := p_sub P t x y k a b
theorem p_mulY {P : Program} {t : TypeId} {x y : Operand} {k : IntKind} {a b : Int} : pureOf P (do eqGuard .mul t x y (.int k a) (.int k b); binOp .mul t (.int k a) (.int k b)) = some (.int k (k.wrap (a * b))) := p_mul P t x y k a b
section
variable {E : Env} {y : Nat → YldP} {n nt : Nat} {ops : Array Oper} {o : Oper} {r : List Oper} {K : St → Prop} {f : Nat → D} {L : BL} {d : Nat} {Q : Ex → St → Prop}
theorem pq {v : D} (hs : PS E n nt f L o.op v) (h : OpsL E y n nt ops r K (up f d v) L) (hw : wantF ops o nt f = some true := by exact rfl) (hd : o.dst = some d := by exact rfl) (hn : Nat.blt d nt = true := by exact rfl) : OpsL E y n nt ops (o :: r) K f L := ol_put hw hd hn hs h
theorem sq {v : D} {i : Nat} (hs : PS E n nt f L o.op v) (h : StL E n nt ops r (i + 1) K (up f d v) L) (hw : wantF ops o nt f = some true := by exact rfl) (hd : o.dst = some d := by exact rfl) (hn : Nat.blt d nt = true := by exact rfl) : StL E n nt ops (o :: r) i K f L := st_put hw hd hn hs h
theorem os (h : OpsL E y n nt ops r K (up f d undefD) L) (hw : wantF ops o nt f = some false := by exact rfl) (hd : o.dst = some d := by exact rfl) (hn : Nat.blt d nt = true := by exact rfl) : OpsL E y n nt ops (o :: r) K f L := ol_skip hw hd hn h
theorem ss {i : Nat} (h : StL E n nt ops r (i + 1) K (up f d undefD) L) (hw : wantF ops o nt f = some false := by exact rfl) (hd : o.dst = some d := by exact rfl) (hn : Nat.blt d nt = true := by exact rfl) : StL E n nt ops (o :: r) i K f L := st_skip hw hd hn h
theorem qm {x : Operand} (v : D) (hx : ov nt f x = some v := by exact rfl) : PS E n nt f L (.move x) v := q_move hx
theorem qa {x : Operand} (v : D) (hx : ov nt f x = some v := by exact rfl) : PS E n nt f L (.assign x) v := q_assign hx
theorem qpt {c a b : Operand} {fr : Bool} (v : D) (hc : ov nt f c = some (.one (.p fr (.v (.bool true)))) := by exact rfl) (hx : ov nt f a = some v := by exact rfl) : PS E n nt f L (.pick c a b) v := q_pickT hc hx
theorem qpf {c a b : Operand} {fr : Bool} (v : D) (hc : ov nt f c = some (.one (.p fr (.v (.bool false)))) := by exact rfl) (hx : ov nt f b = some v := by exact rfl) : PS E n nt f L (.pick c a b) v := q_pickF hc hx
theorem ql {ty : TypeId} {x : Operand} {k i j sz bz : Nat} {ag : Bool} {es : List (List C)} {e cs : List C} (v : D) (p : Nat) (hz : sizeAt E.ti ty = some (sz, ag)) (hx : ov nt f x = some (.one (.ptr k i j)) := by exact rfl) (hp : L[p]? = some [(k, bz, es)] := by exact rfl) (he : es[i]? = some e := by exact rfl) (hc : cut e j (cond ag sz 1) = some cs := by exact rfl) (hv : ofCells ag cs = some v := by exact rfl) : PS E n nt f L (.load ty x) v := q_loadP p hx hz hp he hc hv
theorem qc {c : Call} {k : FuncId} {vs : List (Bool × TD)} {vs2 rs : List TD} (v : D) (args : List D) (hk : RunsP E n k vs2 (.fresh, rs)) (hv : Vw L args vs) (hc : isCall (.call c) = some c := by exact rfl) (hr : resolveD c (ov nt f) = some (k, args) := by exact rfl) (h2 : vs.map (·.2) = vs2 := by exact rfl) (hrv : tupD (rs.map (unview true)) = v := by exact rfl) : PS E n nt f L (.call c) v := q_callF hk hc hr hv h2 hrv
theorem qb {op : BinOp} {ty sh : TypeId} {x y : Operand} {fa fb : Bool} {ka kb : IntKind} {a b : Int} {v : Value} (hp : pureOf E.P (do eqGuard op ty x y (.int ka a) (.int kb b); binOp op ty (.int ka a) (.int kb b)) = some v) (hx : ov nt f x = some (.one (.p fa (.v (.int ka a)))) := by exact rfl) (hy : ov nt f y = some (.one (.p fb (.v (.int kb b)))) := by exact rfl) (h1 : one1 v = true := by exact rfl) : PS E n nt f L (.binOp op ty x y sh) (mk v) := q_bin hx hy hp h1
theorem ow {ty : TypeId} {a x : Operand} {k i j sz bz : Nat} {ag : Bool} {es : List (List C)} {e e' cs : List C} {v : D} {L' : BL} (es' : List (List C)) (p : Nat) (hz : sizeAt E.ti ty = some (sz, ag)) (h : OpsL E y n nt ops r K f L') (hop : o.op = .store ty a x := by exact rfl) (ha : ov nt f a = some (.one (.ptr k i j)) := by exact rfl) (hx : ov nt f x = some v := by exact rfl) (hd : dcells v = some cs := by exact rfl) (hs : Nat.beq cs.length sz = true := by exact rfl) (hp : L[p]? = some [(k, bz, es)] := by exact rfl) (he : es[i]? = some e := by exact rfl) (ht : patch e j cs = some e' := by exact rfl) (hes : es.set i e' = es' := by exact rfl) (hw : wantF ops o nt f = some true := by exact rfl) (hdst : o.dst = none := by exact rfl) (hL : L.set p [(k, bz, es')] = L' := by exact rfl) : OpsL E y n nt ops (o :: r) K f L := ol_wr hw hdst (by rw [hop]; exact q_store p ha hx hd hz hs hp he ht hes) hL h
theorem tq {v : D} {i w b : Nat} {O : List (List Nat)} {N : List (Bool × List Nat)} {R : List (List Nat)} {A : BL} (is : List Nat) (hA : is.filterMap (fun i => L[i]?) = A) (hm : ∀ x ∈ A.flatten, x.1 ∉ (R.getD i []).flatMap (turnsOf b O N)) (hs : PS E n nt f A o.op v) (h : TnL E n nt ops r (i + 1) w O N R b K (up f d v) L) (hw : wantF ops o nt f = some true := by exact rfl) (hd : o.dst = some d := by exact rfl) (hn : Nat.blt d nt = true := by exact rfl) (hn2 : is.Nodup := by decide) (hu : turnsOf b O N i = [] := by exact rfl) : TnL E n nt ops (o :: r) i w O N R b K f L := tn_put hw hd hn is hn2 hA hm hu hs h
theorem oW {d1 d2 : D} {ds : List D} (h : Heap) (hb : HB h L) : ownRes h (d1 :: d2 :: ds) = false := own_no2
theorem oG {cs : List C} (h : Heap) (hb : HB h L) : ownRes h [.agg cs] = false := own_agg
theorem oP {fr : Bool} {t : T} (h : Heap) (hb : HB h L) : ownRes h [.one (.p fr t)] = false := own_p
theorem eF1 {t : Tmp} {fr : Bool} {x : Value} {rs : List TD} (hr : ov nt f (.tmp t) = some (.one (.p fr (.v x))) := by exact rfl) (hrs : [TD.one (.v x)] = rs := by exact rfl) : EndL nt (endQ E [.tmp t] (.fresh, rs)) .ret f L := E_endF (.inr rfl) (res_tmp hr res_nil) (vw_cons (vd_one vc_v) vw_nil) (fun h hb => own_p) rfl hrs
theorem eR {KK : St → Prop} (h : EndL nt Q .ret f L) : EndL nt (thenQ KK Q) .ret f L := h
theorem bR {id : Nat} (h : EndL nt Q .ret f L) : EndL nt (blkQ id Q) .ret f L := h
theorem bN {id : Nat} (h : EndL nt Q .normal f L) : EndL nt (blkQ id Q) .normal f L := h
theorem bH {id : Nat} (h : EndL nt Q .normal f L) : EndL nt (blkQ id Q) (.exit id) f L := E_blkH h
theorem cT {c : Operand} {a b : Code} {fr : Bool} (hc : ov nt f c = some (.one (.p fr (.v (.bool true))))) (h : WpL E y n nt a Q f L) : WpL E y n nt (.cond c a b) Q f L := L_condT hc h
theorem cF {c : Operand} {a b : Code} {fr : Bool} (hc : ov nt f c = some (.one (.p fr (.v (.bool false))))) (h : WpL E y n nt b Q f L) : WpL E y n nt (.cond c a b) Q f L := L_condF hc h
theorem lK (h : EndL nt Q .normal f L) : WpL E y n nt .skip Q f L := L_skip h
theorem lR (h : EndL nt Q .ret f L) : WpL E y n nt .ret Q f L := L_ret h
theorem lB {id : Nat} {c : Code} (h : WpL E y n nt c (blkQ id Q) f L) : WpL E y n nt (.block id c) Q f L := L_block h
theorem eS {b : Code} (h : WpL E y n nt b Q f L) : EndL nt (thenQ (WpC E y n b Q) Q) .normal f L := E_seq h
theorem oE (h : EndL nt Q .normal f L) : OpsL E y n nt ops [] (Q .normal) f L := ol_end h
theorem lS {a b : Code} (h : WpL E y n nt a (thenQ (WpC E y n b Q) Q) f L) : WpL E y n nt (.seq a b) Q f L := L_seq h
theorem lO {id : Nat} {l : List Oper} (h : OpsL E y n nt l.toArray l (Q .normal) f L) : WpL E y n nt (.region id l.toArray false) Q f L := L_ops h
/-- On to the next region. -/
theorem oN {id : Nat} {l : List Oper} {b : Code} (h : OpsL E y n nt l.toArray l (thenQ (WpC E y n b Q) Q .normal) f L) : OpsL E y n nt ops [] (thenQ (WpC E y n (.seq (.region id l.toArray false) b) Q) Q .normal) f L := ol_end (E_seq (L_seq (L_ops h)))
theorem oR {id : Nat} {l : List Oper} (h : OpsL E y n nt l.toArray l (Q .normal) f L) : OpsL E y n nt ops [] (thenQ (WpC E y n (.region id l.toArray false) Q) Q .normal) f L := ol_end (E_seq (L_ops h))
end
end Ev
end Go.Proofs.YtjomjfjbpcafhaaDoor
