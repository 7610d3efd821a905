/- Texts of a claim, joined. -/
import Derived.Test.YtnikcjnkcjondaaDoorZT5
import Derived.Laws.Bits64b
import Derived.Laws.Bits64
import Derived.Lib.TrailingZeros
import Derived.WalkKit
import Derived.BigQuiet
import Derived.WalkSpells
import Derived.WalkLawsBesides
import Derived.IntWalk
import Derived.Test.YtnikcjnkcjondaaDoorProg
set_option linter.unusedVariables false
set_option linter.unusedSimpArgs false
section
namespace Go.Proofs.YtnikcjnkcjondaaDoor
namespace Ev
open Go Go.RowKit
set_option linter.unusedVariables false
set_option linter.unusedSimpArgs false
abbrev bf : D := .one (bC false)
abbrev bt : D := .one (bC true)
abbrev iO (n : Int) : D := .one (iC .i64 n)
abbrev bO (b : Bool) : D := .one (bC b)
abbrev iI (n : Int) : C := iC .i64 n
abbrev uI (n : Int) : C := iC .u64 n
abbrev nC : C := .p true (.s false 0 [])
abbrev sC {α : Type} (r : α → List T) (s : Sl α) : C := .p true (Sl.t r s)
abbrev sF {α : Type} (r : α → List T) (s : Sl α) : C := .p false (Sl.t r s)
theorem sj {α : Type} {a b : α} (h : some a = some b) : a = b := Option.some.inj h
theorem wF {α : Type} {a b : α} {r : α} (h : (if false = true then a else b) = r) : b = r := h
theorem wT {α : Type} {a b : α} {r : α} (h : (if true = true then a else b) = r) : a = r := h
theorem p_lss_tZ {P : Program} {t : TypeId} {x y : Operand} {k : IntKind} {a b : Int} (h : a < b) : pureOf P (do eqGuard .lss t x y (.int k a) (.int k b); binOp .lss t (.int k a) (.int k b)) = some (.bool true) := p_lss_t P t x y k h
theorem p_lss_fZ {P : Program} {t : TypeId} {x y : Operand} {k : IntKind} {a b : Int} (h : ¬ a < b) : pureOf P (do eqGuard .lss t x y (.int k a) (.int k b); binOp .lss t (.int k a) (.int k b)) = some (.bool false) := p_lss_f P t x y k h
theorem p_leq_tZ {P : Program} {t : TypeId} {x y : Operand} {k : IntKind} {a b : Int} (h : a ≤ b) : pureOf P (do eqGuard .leq t x y (.int k a) (.int k b); binOp .leq t (.int k a) (.int k b)) = some (.bool true) := p_leq_t P t x y k h
theorem p_leq_fZ {P : Program} {t : TypeId} {x y : Operand} {k : IntKind} {a b : Int} (h : ¬ a ≤ b) : pureOf P (do eqGuard .leq t x y (.int k a) (.int k b); binOp .leq t (.int k a) (.int k b)) = some (.bool false) := p_leq_f P t x y k h
theorem p_gtr_tZ {P : Program} {t : TypeId} {x y : Operand} {k : IntKind} {a b : Int} (h : a > b) : pureOf P (do eqGuard .gtr t x y (.int k a) (.int k b); binOp .gtr t (.int k a) (.int k b)) = some (.bool true) := p_gtr_t P t x y k h
theorem p_gtr_fZ {P : Program} {t : TypeId} {x y : Operand} {k : IntKind} {a b : Int} (h : ¬ a > b) : pureOf P (do eqGuard .gtr t x y (.int k a) (.int k b); binOp .gtr t (.int k a) (.int k b)) = some (.bool false) := p_gtr_f P t x y k h
theorem p_geq_tZ {P : Program} {t : TypeId} {x y : Operand} {k : IntKind} {a b : Int} (h : a ≥ b) : pureOf P (do eqGuard .geq t x y (.int k a) (.int k b); binOp .geq t (.int k a) (.int k b)) = some (.bool true) := p_geq_t P t x y k h
theorem p_geq_fZ {P : Program} {t : TypeId} {x y : Operand} {k : IntKind} {a b : Int} (h : ¬ a ≥ b) : pureOf P (do eqGuard .geq t x y (.int k a) (.int k b); binOp .geq t (.int k a) (.int k b)) = some (.bool false) := p_geq_f P t x y k h
theorem p_eql_tZ {P : Program} {t : TypeId} {x y : Operand} {k : IntKind} {a b : Int} (h : a = b) : pureOf P (do eqGuard .eql t x y (.int k a) (.int k b); binOp .eql t (.int k a) (.int k b)) = some (.bool true) := p_eql_t P t x y k h
theorem p_eql_fZ {P : Program} {t : TypeId} {x y : Operand} {k : IntKind} {a b : Int} (h : ¬ a = b) : pureOf P (do eqGuard .eql t x y (.int k a) (.int k b); binOp .eql t (.int k a) (.int k b)) = some (.bool false) := p_eql_f P t x y k h
theorem p_neq_tZ {P : Program} {t : TypeId} {x y : Operand} {k : IntKind} {a b : Int} (h : a ≠ b) : pureOf P (do eqGuard .neq t x y (.int k a) (.int k b); binOp .neq t (.int k a) (.int k b)) = some (.bool true) := p_neq_t P t x y k h
theorem p_neq_fZ {P : Program} {t : TypeId} {x y : Operand} {k : IntKind} {a b : Int} (h : ¬ a ≠ b) : pureOf P (do eqGuard .neq t x y (.int k a) (.int k b); binOp .neq t (.int k a) (.int k b)) = some (.bool false) := p_neq_f P t x y k h
theorem p_addY {P : Program} {t : TypeId} {x y : Operand} {k : IntKind} {a b : Int} : pureOf P (do eqGuard .add t x y (.int k a) (.int k b); binOp .add t (.int k a) (.int k b)) = some (.int k (k.wrap (a + b))) := p_add P t x y k a b
theorem p_subY {P : Program} {t : TypeId} {x y : Operand} {k : IntKind} {a b : Int} : pureOf P (do eqGuard .sub t x y (.int k a) (.int k b); binOp .sub t (.int k a) (.int k b)) = some (.int k (k.wrap (a - b))) := p_sub P t x y k a b
theorem p_mulY {P : Program} {t : TypeId} {x y : Operand} {k : IntKind} {a b : Int} : pureOf P (do eqGuard .mul t x y (.int k a) (.int k b); binOp .mul t (.int k a) (.int k b)) = some (.int k (k.wrap (a * b))) := p_mul P t x y k a b
section
variable {E : Env} {y : Nat → YldP} {n nt : Nat} {ops : Array Oper} {o : Oper} {r : List Oper} {K : St → Prop} {f : Nat → D} {L : BL} {d : Nat} {Q : Ex → St → Prop}
theorem pq {v : D} (hs : PS E n nt f L o.op v) (h : OpsL E y n nt ops r K (up f d v) L) (hw : wantF ops o nt f = some true := by exact rfl) (hd : o.dst = some d := by exact rfl) (hn : Nat.blt d nt = true := by exact rfl) : OpsL E y n nt ops (o :: r) K f L := ol_put hw hd hn hs h
theorem sq {v : D} {i : Nat} (hs : PS E n nt f L o.op v) (h : StL E n nt ops r (i + 1) K (up f d v) L) (hw : wantF ops o nt f = some true := by exact rfl) (hd : o.dst = some d := by exact rfl) (hn : Nat.blt d nt = true := by exact rfl) : StL E n nt ops (o :: r) i K f L := st_put hw hd hn hs h
theorem os (h : OpsL E y n nt ops r K (up f d undefD) L) (hw : wantF ops o nt f = some false := by exact rfl) (hd : o.dst = some d := by exact rfl) (hn : Nat.blt d nt = true := by exact rfl) : OpsL E y n nt ops (o :: r) K f L := ol_skip hw hd hn h
theorem ss {i : Nat} (h : StL E n nt ops r (i + 1) K (up f d undefD) L) (hw : wantF ops o nt f = some false := by exact rfl) (hd : o.dst = some d := by exact rfl) (hn : Nat.blt d nt = true := by exact rfl) : StL E n nt ops (o :: r) i K f L := st_skip hw hd hn h
theorem qm {x : Operand} (v : D) (hx : ov nt f x = some v := by exact rfl) : PS E n nt f L (.move x) v := q_move hx
theorem qa {x : Operand} (v : D) (hx : ov nt f x = some v := by exact rfl) : PS E n nt f L (.assign x) v := q_assign hx
theorem qpt {c a b : Operand} {fr : Bool} (v : D) (hc : ov nt f c = some (.one (.p fr (.v (.bool true)))) := by exact rfl) (hx : ov nt f a = some v := by exact rfl) : PS E n nt f L (.pick c a b) v := q_pickT hc hx
theorem qpf {c a b : Operand} {fr : Bool} (v : D) (hc : ov nt f c = some (.one (.p fr (.v (.bool false)))) := by exact rfl) (hx : ov nt f b = some v := by exact rfl) : PS E n nt f L (.pick c a b) v := q_pickF hc hx
theorem ql {ty : TypeId} {x : Operand} {k i j sz bz : Nat} {ag : Bool} {es : List (List C)} {e cs : List C} (v : D) (p : Nat) (hz : sizeAt E.ti ty = some (sz, ag)) (hx : ov nt f x = some (.one (.ptr k i j)) := by exact rfl) (hp : L[p]? = some [(k, bz, es)] := by exact rfl) (he : es[i]? = some e := by exact rfl) (hc : cut e j (cond ag sz 1) = some cs := by exact rfl) (hv : ofCells ag cs = some v := by exact rfl) : PS E n nt f L (.load ty x) v := q_loadP p hx hz hp he hc hv
theorem qc {c : Call} {k : FuncId} {vs : List (Bool × TD)} {vs2 rs : List TD} (v : D) (args : List D) (hk : RunsP E n k vs2 (.fresh, rs)) (hv : Vw L args vs) (hc : isCall (.call c) = some c := by exact rfl) (hr : resolveD c (ov nt f) = some (k, args) := by exact rfl) (h2 : vs.map (·.2) = vs2 := by exact rfl) (hrv : tupD (rs.map (unview true)) = v := by exact rfl) : PS E n nt f L (.call c) v := q_callF hk hc hr hv h2 hrv
theorem qb {op : BinOp} {ty sh : TypeId} {x y : Operand} {fa fb : Bool} {ka kb : IntKind} {a b : Int} {v : Value} (hp : pureOf E.P (do eqGuard op ty x y (.int ka a) (.int kb b); binOp op ty (.int ka a) (.int kb b)) = some v) (hx : ov nt f x = some (.one (.p fa (.v (.int ka a)))) := by exact rfl) (hy : ov nt f y = some (.one (.p fb (.v (.int kb b)))) := by exact rfl) (h1 : one1 v = true := by exact rfl) : PS E n nt f L (.binOp op ty x y sh) (mk v) := q_bin hx hy hp h1
theorem ow {ty : TypeId} {a x : Operand} {k i j sz bz : Nat} {ag : Bool} {es : List (List C)} {e e' cs : List C} {v : D} {L' : BL} (es' : List (List C)) (p : Nat) (hz : sizeAt E.ti ty = some (sz, ag)) (h : OpsL E y n nt ops r K f L') (hop : o.op = .store ty a x := by exact rfl) (ha : ov nt f a = some (.one (.ptr k i j)) := by exact rfl) (hx : ov nt f x = some v := by exact rfl) (hd : dcells v = some cs := by exact rfl) (hs : Nat.beq cs.length sz = true := by exact rfl) (hp : L[p]? = some [(k, bz, es)] := by exact rfl) (he : es[i]? = some e := by exact rfl) (ht : patch e j cs = some e' := by exact rfl) (hes : es.set i e' = es' := by exact rfl) (hw : wantF ops o nt f = some true := by exact rfl) (hdst : o.dst = none := by exact rfl) (hL : L.set p [(k, bz, es')] = L' := by exact rfl) : OpsL E y n nt ops (o :: r) K f L := ol_wr hw hdst (by rw [hop]; exact q_store p ha hx hd hz hs hp he ht hes) hL h
theorem tq {v : D} {i w b : Nat} {O : List (List Nat)} {N : List (Bool × List Nat)} {R : List (List Nat)} {A : BL} (is : List Nat) (hA : is.filterMap (fun i => L[i]?) = A) (hm : ∀ x ∈ A.flatten, x.1 ∉ (R.getD i []).flatMap (turnsOf b O N)) (hs : PS E n nt f A o.op v) (h : TnL E n nt ops r (i + 1) w O N R b K (up f d v) L) (hw : wantF ops o nt f = some true := by exact rfl) (hd : o.dst = some d := by exact rfl) (hn : Nat.blt d nt = true := by exact rfl) (hn2 : is.Nodup := by decide) (hu : turnsOf b O N i = [] := by exact rfl) : TnL E n nt ops (o :: r) i w O N R b K f L := tn_put hw hd hn is hn2 hA hm hu hs h
theorem oW {d1 d2 : D} {ds : List D} (h : Heap) (hb : HB h L) : ownRes h (d1 :: d2 :: ds) = false := own_no2
theorem oG {cs : List C} (h : Heap) (hb : HB h L) : ownRes h [.agg cs] = false := own_agg
theorem oP {fr : Bool} {t : T} (h : Heap) (hb : HB h L) : ownRes h [.one (.p fr t)] = false := own_p
theorem eF1 {t : Tmp} {fr : Bool} {x : Value} {rs : List TD} (hr : ov nt f (.tmp t) = some (.one (.p fr (.v x))) := by exact rfl) (hrs : [TD.one (.v x)] = rs := by exact rfl) : EndL nt (endQ E [.tmp t] (.fresh, rs)) .ret f L := E_endF (.inr rfl) (res_tmp hr res_nil) (vw_cons (vd_one vc_v) vw_nil) (fun h hb => own_p) rfl hrs
theorem eR {KK : St → Prop} (h : EndL nt Q .ret f L) : EndL nt (thenQ KK Q) .ret f L := h
theorem bR {id : Nat} (h : EndL nt Q .ret f L) : EndL nt (blkQ id Q) .ret f L := h
theorem bN {id : Nat} (h : EndL nt Q .normal f L) : EndL nt (blkQ id Q) .normal f L := h
theorem bH {id : Nat} (h : EndL nt Q .normal f L) : EndL nt (blkQ id Q) (.exit id) f L := E_blkH h
theorem cT {c : Operand} {a b : Code} {fr : Bool} (hc : ov nt f c = some (.one (.p fr (.v (.bool true))))) (h : WpL E y n nt a Q f L) : WpL E y n nt (.cond c a b) Q f L := L_condT hc h
theorem cF {c : Operand} {a b : Code} {fr : Bool} (hc : ov nt f c = some (.one (.p fr (.v (.bool false))))) (h : WpL E y n nt b Q f L) : WpL E y n nt (.cond c a b) Q f L := L_condF hc h
theorem lK (h : EndL nt Q .normal f L) : WpL E y n nt .skip Q f L := L_skip h
theorem lR (h : EndL nt Q .ret f L) : WpL E y n nt .ret Q f L := L_ret h
theorem lB {id : Nat} {c : Code} (h : WpL E y n nt c (blkQ id Q) f L) : WpL E y n nt (.block id c) Q f L := L_block h
theorem eS {b : Code} (h : WpL E y n nt b Q f L) : EndL nt (thenQ (WpC E y n b Q) Q) .normal f L := E_seq h
theorem oE (h : EndL nt Q .normal f L) : OpsL E y n nt ops [] (Q .normal) f L := ol_end h
theorem lS {a b : Code} (h : WpL E y n nt a (thenQ (WpC E y n b Q) Q) f L) : WpL E y n nt (.seq a b) Q f L := L_seq h
theorem lO {id : Nat} {l : List Oper} (h : OpsL E y n nt l.toArray l (Q .normal) f L) : WpL E y n nt (.region id l.toArray false) Q f L := L_ops h
theorem oN {id : Nat} {l : List Oper} {b : Code} (h : OpsL E y n nt l.toArray l (thenQ (WpC E y n b Q) Q .normal) f L) : OpsL E y n nt ops [] (thenQ (WpC E y n (.seq (.region id l.toArray false) b) Q) Q .normal) f L := ol_end (E_seq (L_seq (L_ops h)))
theorem oR {id : Nat} {l : List Oper} (h : OpsL E y n nt l.toArray l (Q .normal) f L) : OpsL E y n nt ops [] (thenQ (WpC E y n (.region id l.toArray false) Q) Q .normal) f L := ol_end (E_seq (L_ops h))
end
end Ev
end Go.Proofs.YtnikcjnkcjondaaDoor
end
section
namespace Go.Proofs.YtnikcjnkcjondaaDoor
open Go Go.RowKit
set_option linter.unusedVariables false
theorem tz64_key' (x a : Nat) (hx : x < 18446744073709551616) (hx0 : x ≠ 0) (hlow : x &&& (18446744073709551616 - x) = a) :
  IntKind.u64.wrap (bits BinOp.and IntKind.u64 (x : Int) (IntKind.u64.wrap (-(x : Int))) * 285870213051353865) / 288230376151711744 = ((a * 285870213051353865 % 18446744073709551616 / 288230376151711744 : Nat) : Int) := by
 have e1 : IntKind.u64.wrap (-(x : Int)) = ((18446744073709551616 - x : Nat) : Int) := by rw [IntKind.wrap_u64]; omega
 rw [e1, bits_and_u64_nat x _ hx (by omega), hlow, IntKind.wrap_u64]
 omega
set_option maxHeartbeats 1000000 in
theorem tz64_core (x k idx : Nat) (w : World) (hx0 : ((x : Int) == 0) = false)
  (key : IntKind.u64.wrap (bits BinOp.and IntKind.u64 (x : Int) (IntKind.u64.wrap (-(x : Int))) * 285870213051353865) / 288230376151711744 = (idx : Int))
  (hi : idx < 64) (hk : k < 64) (hcell : w.cell? ⟨0, idx, none⟩ = some (.int .u8 k)) :
  Calls Tryd.prog 78 #[.int .u64 x] w fun e w' => e = .returned (.int .i64 k) ∧ w = w' := by
 go_enter Tryd.func78, Tryd.ntmps78
 go_wp2_with (simp only [key])
 go_ret
 exact ⟨rfl, rfl⟩
namespace Ev
theorem tz64_any (x : Nat) (hx : x < 18446744073709551616) (hx0 : x ≠ 0) (w : World) (hT : TabW w) :
  Calls Tryd.prog 78 #[.int .u64 x] w fun e w' => e = .returned (.int .i64 (Lib.ctz 64 x)) ∧ w = w' := by
 obtain ⟨hlow, hk⟩ := Lib.lowest_bit 64 x hx0 hx
 obtain ⟨hi, htab⟩ := Lib.deBruijn64_at _ hk
 have hcell := hT.2 _ hi
 rw [htab] at hcell
 exact tz64_core x _ _ w (by simp; omega) (tz64_key' x _ hx hx0 hlow) hi hk hcell
def tzF : List TD → Option (Kind × List TD)
 | [.one (.v (.int .u64 x))] => if 0 < x ∧ x < 18446744073709551616 then some (.fresh, [.one (.v (.int .i64 (Lib.ctz 64 x.toNat)))]) else none
 | _ => none
def TZ (x : Int) : Option Int := if 0 < x ∧ x < 18446744073709551616 then some ((Lib.ctz 64 x.toNat : Nat) : Int) else none
theorem tz_ok (vs : List TD) (kind : Kind) (rs : List TD) (h : tzF vs = some (kind, rs)) : PureOk Tryd.prog 78 vs kind rs ∧ Enters Tryd.prog 78 := by
 unfold tzF at h
 split at h
 ·rename_i x
  split at h
  ·rename_i hx
   simp only [Option.some.injEq, Prod.mk.injEq] at h
   obtain ⟨rfl, rfl⟩ := h
   refine ⟨fun w F ys hL hF hr => ?_, ⟨_, _, Tryd.func78, by kernel_rfl, by unfold Tryd.f78; rfl⟩⟩
   obtain ⟨hlen, hi⟩ := hr
   match ys, hlen with
   | [y], _ =>
    obtain ⟨y', e1, e2⟩ := hi 0 _ rfl
    simp only [List.getElem?_cons_zero, Option.some.injEq] at e1
    subst e1
    have ey : y = .int .u64 x := by
     cases e2 with
     | one t y h => cases h with | v x hx => rfl
    subst ey
    obtain ⟨n, rfl⟩ := Int.eq_ofNat_of_zero_le (show 0 ≤ x by omega)
    refine (tz64_any n (by omega) (by omega) w hL.2).mono fun e w' ⟨he, hw⟩ => ?_
    subst hw
    refine ⟨_, he, ?_, fun hk => (by cases hk), Below.refl _ _⟩
    exact .one _ _ (.v _ rfl)
  ·simp at h
 ·simp at h
end Ev
end Go.Proofs.YtnikcjnkcjondaaDoor
end
section
namespace Go.Proofs.YtnikcjnkcjondaaDoor
namespace Ev
open Go
set_option linter.unusedVariables false
set_option linter.unusedSimpArgs false
set_option maxRecDepth 100000
set_option maxHeartbeats 1000000
attribute [local irreducible] OpsL StL TnL WpL EndL
theorem tz1 : tiOf Tryd.prog 1 = some (⟨.func #[] #[] false, [.nilFunc], 1, 8⟩ : TI) := by kernel_rfl
theorem tz2 : tiOf Tryd.prog 2 = some (⟨.int .i64, [.int .i64 0], 1, 8⟩ : TI) := by kernel_rfl
theorem tz3 : tiOf Tryd.prog 3 = some (⟨.int .i64, [.int .i64 0], 1, 8⟩ : TI) := by kernel_rfl
theorem tz4 : tiOf Tryd.prog 4 = some (⟨.bool, [.bool false], 1, 1⟩ : TI) := by kernel_rfl
theorem tz5 : tiOf Tryd.prog 5 = some (⟨.int .u8, [.int .u8 0], 1, 1⟩ : TI) := by kernel_rfl
theorem tz22 : tiOf Tryd.prog 22 = some (⟨.int .i64, [.int .i64 0], 1, 8⟩ : TI) := by kernel_rfl
theorem tz23 : tiOf Tryd.prog 23 = some (⟨.array 2 5, [.int .u8 0, .int .u8 0], 2, 2⟩ : TI) := by kernel_rfl
theorem tz24 : tiOf Tryd.prog 24 = some (⟨.slice 77, [.slice none 0 0], 1, 24⟩ : TI) := by kernel_rfl
theorem tz25 : tiOf Tryd.prog 25 = some (⟨.slice 58, [.slice none 0 0], 1, 24⟩ : TI) := by kernel_rfl
theorem tz26 : tiOf Tryd.prog 26 = some (⟨.slice 62, [.slice none 0 0], 1, 24⟩ : TI) := by kernel_rfl
theorem tz28 : tiOf Tryd.prog 28 = some (⟨.struct (flds Tryd.prog 28), [.int .i64 0, .int .u8 0, .int .u8 0, .slice none 0 0, .slice none 0 0, .slice none 0 0, .slice none 0 0, .bool false], 8, 120⟩ : TI) := by kernel_rfl
theorem tz30 : tiOf Tryd.prog 30 = some (⟨.slice 3, [.slice none 0 0], 1, 24⟩ : TI) := by kernel_rfl
theorem tz31 : tiOf Tryd.prog 31 = some (⟨.slice 2, [.slice none 0 0], 1, 24⟩ : TI) := by kernel_rfl
theorem tz33 : tiOf Tryd.prog 33 = some (⟨.struct (flds Tryd.prog 33), [.int .i64 0, .int .i64 0, .slice none 0 0, .slice none 0 0, .slice none 0 0], 5, 88⟩ : TI) := by kernel_rfl
theorem pl33 : places (tiOf Tryd.prog) (⟨.struct (flds Tryd.prog 33), [.int .i64 0, .int .i64 0, .slice none 0 0, .slice none 0 0, .slice none 0 0], 5, 88⟩ : TI) = some fun i => ([(0, 1), (1, 1), (2, 1), (3, 1), (4, 1)] : List (Nat × Nat))[i]? := by kernel_rfl
theorem tz36 : tiOf Tryd.prog 36 = some (⟨.struct (flds Tryd.prog 36), [.int .i64 0, .slice none 0 0], 2, 32⟩ : TI) := by kernel_rfl
theorem pl36 : places (tiOf Tryd.prog) (⟨.struct (flds Tryd.prog 36), [.int .i64 0, .slice none 0 0], 2, 32⟩ : TI) = some fun i => ([(0, 1), (1, 1)] : List (Nat × Nat))[i]? := by kernel_rfl
theorem tz43 : tiOf Tryd.prog 43 = some (⟨.struct (flds Tryd.prog 43), [.int .i64 0, .slice none 0 0, .slice none 0 0], 3, 56⟩ : TI) := by kernel_rfl
theorem pl43 : places (tiOf Tryd.prog) (⟨.struct (flds Tryd.prog 43), [.int .i64 0, .slice none 0 0, .slice none 0 0], 3, 56⟩ : TI) = some fun i => ([(0, 1), (1, 1), (2, 1)] : List (Nat × Nat))[i]? := by kernel_rfl
theorem tz58 : tiOf Tryd.prog 58 = some (⟨.struct (flds Tryd.prog 58), [.int .i64 0, .int .i64 0], 2, 16⟩ : TI) := by kernel_rfl
theorem pl58 : places (tiOf Tryd.prog) (⟨.struct (flds Tryd.prog 58), [.int .i64 0, .int .i64 0], 2, 16⟩ : TI) = some fun i => ([(0, 1), (1, 1)] : List (Nat × Nat))[i]? := by kernel_rfl
theorem tz62 : tiOf Tryd.prog 62 = some (⟨.int .u64, [.int .u64 0], 1, 8⟩ : TI) := by kernel_rfl
theorem tz64 : tiOf Tryd.prog 64 = some (⟨.struct (flds Tryd.prog 64), [.int .i64 0, .int .u64 0], 2, 16⟩ : TI) := by kernel_rfl
theorem pl64 : places (tiOf Tryd.prog) (⟨.struct (flds Tryd.prog 64), [.int .i64 0, .int .u64 0], 2, 16⟩ : TI) = some fun i => ([(0, 1), (1, 1)] : List (Nat × Nat))[i]? := by kernel_rfl
theorem tz67 : tiOf Tryd.prog 67 = some (⟨.slice 79, [.slice none 0 0], 1, 24⟩ : TI) := by kernel_rfl
theorem tz77 : tiOf Tryd.prog 77 = some (⟨.struct (flds Tryd.prog 77), [.int .i64 0, .int .i64 0, .int .i64 0], 3, 24⟩ : TI) := by kernel_rfl
theorem pl77 : places (tiOf Tryd.prog) (⟨.struct (flds Tryd.prog 77), [.int .i64 0, .int .i64 0, .int .i64 0], 3, 24⟩ : TI) = some fun i => ([(0, 1), (1, 1), (2, 1)] : List (Nat × Nat))[i]? := by kernel_rfl
theorem tz79 : tiOf Tryd.prog 79 = some (⟨.struct (flds Tryd.prog 79), [.int .i64 0, .int .i64 0, .int .u64 0], 3, 24⟩ : TI) := by kernel_rfl
theorem pl79 : places (tiOf Tryd.prog) (⟨.struct (flds Tryd.prog 79), [.int .i64 0, .int .i64 0, .int .u64 0], 3, 24⟩ : TI) = some fun i => ([(0, 1), (1, 2)] : List (Nat × Nat))[i]? := by kernel_rfl
theorem tz92 : tiOf Tryd.prog 92 = some (⟨.func #[3] #[64, 4] false, [.nilFunc], 1, 8⟩ : TI) := by kernel_rfl
theorem tz102 : tiOf Tryd.prog 102 = some (⟨.slice 104, [.slice none 0 0], 1, 24⟩ : TI) := by kernel_rfl
theorem tz104 : tiOf Tryd.prog 104 = some (⟨.struct (flds Tryd.prog 104), [.int .i64 0, .int .i64 0, .int .i64 0], 3, 24⟩ : TI) := by kernel_rfl
theorem pl104 : places (tiOf Tryd.prog) (⟨.struct (flds Tryd.prog 104), [.int .i64 0, .int .i64 0, .int .i64 0], 3, 24⟩ : TI) = some fun i => ([(0, 1), (1, 1), (2, 1)] : List (Nat × Nat))[i]? := by kernel_rfl
theorem tz114 : tiOf Tryd.prog 114 = some (⟨.slice 64, [.slice none 0 0], 1, 24⟩ : TI) := by kernel_rfl
theorem tz118 : tiOf Tryd.prog 118 = some (⟨.array 4 62, [.int .u64 0, .int .u64 0, .int .u64 0, .int .u64 0], 4, 32⟩ : TI) := by kernel_rfl
theorem sz1 : sizeAt (tiOf Tryd.prog) 1 = some (1, false) := by kernel_rfl
theorem sz2 : sizeAt (tiOf Tryd.prog) 2 = some (1, false) := by kernel_rfl
theorem sz3 : sizeAt (tiOf Tryd.prog) 3 = some (1, false) := by kernel_rfl
theorem sz4 : sizeAt (tiOf Tryd.prog) 4 = some (1, false) := by kernel_rfl
theorem sz5 : sizeAt (tiOf Tryd.prog) 5 = some (1, false) := by kernel_rfl
theorem sz22 : sizeAt (tiOf Tryd.prog) 22 = some (1, false) := by kernel_rfl
theorem sz23 : sizeAt (tiOf Tryd.prog) 23 = some (2, true) := by kernel_rfl
theorem sz24 : sizeAt (tiOf Tryd.prog) 24 = some (1, false) := by kernel_rfl
theorem el24 : elemAt (tiOf Tryd.prog) 24 = some 3 := by kernel_rfl
theorem sz25 : sizeAt (tiOf Tryd.prog) 25 = some (1, false) := by kernel_rfl
theorem el25 : elemAt (tiOf Tryd.prog) 25 = some 2 := by kernel_rfl
theorem sz26 : sizeAt (tiOf Tryd.prog) 26 = some (1, false) := by kernel_rfl
theorem el26 : elemAt (tiOf Tryd.prog) 26 = some 1 := by kernel_rfl
theorem sz28 : sizeAt (tiOf Tryd.prog) 28 = some (8, true) := by kernel_rfl
theorem fa28_0 : fieldAt (tiOf Tryd.prog) 28 0 = some (0, 1, false) := by kernel_rfl
theorem fa28_1 : fieldAt (tiOf Tryd.prog) 28 1 = some (1, 2, true) := by kernel_rfl
theorem fa28_2 : fieldAt (tiOf Tryd.prog) 28 2 = some (3, 1, false) := by kernel_rfl
theorem fa28_3 : fieldAt (tiOf Tryd.prog) 28 3 = some (4, 1, false) := by kernel_rfl
theorem fa28_4 : fieldAt (tiOf Tryd.prog) 28 4 = some (5, 1, false) := by kernel_rfl
theorem sz30 : sizeAt (tiOf Tryd.prog) 30 = some (1, false) := by kernel_rfl
theorem el30 : elemAt (tiOf Tryd.prog) 30 = some 1 := by kernel_rfl
theorem sz31 : sizeAt (tiOf Tryd.prog) 31 = some (1, false) := by kernel_rfl
theorem el31 : elemAt (tiOf Tryd.prog) 31 = some 1 := by kernel_rfl
theorem sz33 : sizeAt (tiOf Tryd.prog) 33 = some (5, true) := by kernel_rfl
theorem fa33_0 : fieldAt (tiOf Tryd.prog) 33 0 = some (0, 1, false) := by kernel_rfl
theorem fa33_1 : fieldAt (tiOf Tryd.prog) 33 1 = some (1, 1, false) := by kernel_rfl
theorem fa33_2 : fieldAt (tiOf Tryd.prog) 33 2 = some (2, 1, false) := by kernel_rfl
theorem fa33_3 : fieldAt (tiOf Tryd.prog) 33 3 = some (3, 1, false) := by kernel_rfl
theorem fa33_4 : fieldAt (tiOf Tryd.prog) 33 4 = some (4, 1, false) := by kernel_rfl
theorem sz36 : sizeAt (tiOf Tryd.prog) 36 = some (2, true) := by kernel_rfl
theorem fa36_0 : fieldAt (tiOf Tryd.prog) 36 0 = some (0, 1, false) := by kernel_rfl
theorem fa36_1 : fieldAt (tiOf Tryd.prog) 36 1 = some (1, 1, false) := by kernel_rfl
theorem sz43 : sizeAt (tiOf Tryd.prog) 43 = some (3, true) := by kernel_rfl
theorem fa43_0 : fieldAt (tiOf Tryd.prog) 43 0 = some (0, 1, false) := by kernel_rfl
theorem fa43_1 : fieldAt (tiOf Tryd.prog) 43 1 = some (1, 1, false) := by kernel_rfl
theorem fa43_2 : fieldAt (tiOf Tryd.prog) 43 2 = some (2, 1, false) := by kernel_rfl
theorem sz58 : sizeAt (tiOf Tryd.prog) 58 = some (2, true) := by kernel_rfl
theorem fa58_0 : fieldAt (tiOf Tryd.prog) 58 0 = some (0, 1, false) := by kernel_rfl
theorem fa58_1 : fieldAt (tiOf Tryd.prog) 58 1 = some (1, 1, false) := by kernel_rfl
theorem sz62 : sizeAt (tiOf Tryd.prog) 62 = some (1, false) := by kernel_rfl
theorem sz64 : sizeAt (tiOf Tryd.prog) 64 = some (2, true) := by kernel_rfl
theorem fa64_0 : fieldAt (tiOf Tryd.prog) 64 0 = some (0, 1, false) := by kernel_rfl
theorem fa64_1 : fieldAt (tiOf Tryd.prog) 64 1 = some (1, 1, false) := by kernel_rfl
theorem sz67 : sizeAt (tiOf Tryd.prog) 67 = some (1, false) := by kernel_rfl
theorem el67 : elemAt (tiOf Tryd.prog) 67 = some 3 := by kernel_rfl
theorem sz77 : sizeAt (tiOf Tryd.prog) 77 = some (3, true) := by kernel_rfl
theorem fa77_0 : fieldAt (tiOf Tryd.prog) 77 0 = some (0, 1, false) := by kernel_rfl
theorem fa77_1 : fieldAt (tiOf Tryd.prog) 77 1 = some (1, 1, false) := by kernel_rfl
theorem fa77_2 : fieldAt (tiOf Tryd.prog) 77 2 = some (2, 1, false) := by kernel_rfl
theorem sz79 : sizeAt (tiOf Tryd.prog) 79 = some (3, true) := by kernel_rfl
theorem fa79_0 : fieldAt (tiOf Tryd.prog) 79 0 = some (0, 1, false) := by kernel_rfl
theorem fa79_1 : fieldAt (tiOf Tryd.prog) 79 1 = some (1, 2, true) := by kernel_rfl
theorem sz92 : sizeAt (tiOf Tryd.prog) 92 = some (1, false) := by kernel_rfl
theorem el102 : elemAt (tiOf Tryd.prog) 102 = some 3 := by kernel_rfl
theorem sz104 : sizeAt (tiOf Tryd.prog) 104 = some (3, true) := by kernel_rfl
theorem fa104_0 : fieldAt (tiOf Tryd.prog) 104 0 = some (0, 1, false) := by kernel_rfl
theorem fa104_1 : fieldAt (tiOf Tryd.prog) 104 1 = some (1, 1, false) := by kernel_rfl
theorem fa104_2 : fieldAt (tiOf Tryd.prog) 104 2 = some (2, 1, false) := by kernel_rfl
theorem el114 : elemAt (tiOf Tryd.prog) 114 = some 2 := by kernel_rfl
theorem sz118 : sizeAt (tiOf Tryd.prog) 118 = some (4, true) := by kernel_rfl
theorem mixed0 : Tryd.prog.follows .mixedOrders = true := by kernel_rfl
theorem names0 : namesOk Tryd.prog = true := by kernel_rfl
def preAx : Ax := (addAx (fun _ => none) 78 tzF)
theorem preAx_ok : AxOk Tryd.prog preAx := (axOk_add (axOk_none _) tz_ok)
def inlF : List TD → Option (Kind × List TD) := fun _ => none
def inlAx : Ax := (addAx (addAx (addAx (addAx preAx 30 inlF) 37 inlF) 49 inlF) 79 inlF)
theorem inlAx_ok : AxOk Tryd.prog inlAx := (axOk_add (axOk_add (axOk_add (axOk_add preAx_ok fun vs kind rs h => by simp [inlF] at h) fun vs kind rs h => by simp [inlF] at h) fun vs kind rs h => by simp [inlF] at h) fun vs kind rs h => by simp [inlF] at h)
noncomputable def E0 : Env := envOf Tryd.prog inlAx
theorem E0_ok : E0.Ok := envOf_ok mixed0 names0 inlAx_ok
theorem live0 : (callers E0 300 60).1 11 [] = some (.fresh, [.one (.v (.bool true))]) := by kernel_rfl
def liveF : List TD → Option (Kind × List TD)
 | [] => some (.fresh, [.one (.v (.bool true))])
 | _ => none
def liveAx : Ax := addAx inlAx 11 liveF
noncomputable def E1 : Env := envOf Tryd.prog liveAx
theorem E1_ok : E1.Ok := envOf_ok mixed0 names0 (axOk_add inlAx_ok fun vs kind rs h => by
 unfold liveF at h
 split at h
 ·simp only [Option.some.injEq, Prod.mk.injEq] at h
  obtain ⟨rfl, rfl⟩ := h
  exact (callers_ok E0_ok 300 60).1 _ _ _ _ live0
 ·simp at h)
theorem E1_fn : E1.fn = fiOf Tryd.prog := envOf_fn _ _
def FL : Option Bool := some true
theorem FL_r (m : Nat) {out : Bool} (h : FL = some out) : RunsP E1 (m + 1) 11 [] (.fresh, [.one (bT out)]) := by
 obtain rfl := Option.some.inj h
 exact runsP_ax (F := liveF) rfl rfl
theorem TZ_r (m : Nat) {n1 : Int} {out : Int} (h : TZ n1 = some out) : RunsP E1 (m + 1) 78 [.one (iT .u64 n1)] (.fresh, [.one (iT .i64 out)]) := by
 unfold TZ at h
 split at h
 ·rename_i hx
  obtain rfl := Option.some.inj h
  exact runsP_ax (F := tzF) rfl (by show tzF [.one (.v (.int .u64 n1))] = _; unfold tzF; simp only; exact if_pos hx)
 ·simp at h
theorem ax30 : E1.ax 30 = some fun _ => none := rfl
theorem ax37 : E1.ax 37 = some fun _ => none := rfl
theorem ax49 : E1.ax 49 = some fun _ => none := rfl
theorem ax79 : E1.ax 79 = some fun _ => none := rfl
theorem ty1 : E1.ti 1 = some (⟨.func #[] #[] false, [.nilFunc], 1, 8⟩ : TI) := tz1
theorem ty2 : E1.ti 2 = some (⟨.int .i64, [.int .i64 0], 1, 8⟩ : TI) := tz2
theorem ty3 : E1.ti 3 = some (⟨.int .i64, [.int .i64 0], 1, 8⟩ : TI) := tz3
theorem ty4 : E1.ti 4 = some (⟨.bool, [.bool false], 1, 1⟩ : TI) := tz4
theorem ty5 : E1.ti 5 = some (⟨.int .u8, [.int .u8 0], 1, 1⟩ : TI) := tz5
theorem ty22 : E1.ti 22 = some (⟨.int .i64, [.int .i64 0], 1, 8⟩ : TI) := tz22
theorem ty23 : E1.ti 23 = some (⟨.array 2 5, [.int .u8 0, .int .u8 0], 2, 2⟩ : TI) := tz23
theorem ty24 : E1.ti 24 = some (⟨.slice 77, [.slice none 0 0], 1, 24⟩ : TI) := tz24
theorem ty25 : E1.ti 25 = some (⟨.slice 58, [.slice none 0 0], 1, 24⟩ : TI) := tz25
theorem ty26 : E1.ti 26 = some (⟨.slice 62, [.slice none 0 0], 1, 24⟩ : TI) := tz26
theorem ty28 : E1.ti 28 = some (⟨.struct (flds Tryd.prog 28), [.int .i64 0, .int .u8 0, .int .u8 0, .slice none 0 0, .slice none 0 0, .slice none 0 0, .slice none 0 0, .bool false], 8, 120⟩ : TI) := tz28
theorem ty30 : E1.ti 30 = some (⟨.slice 3, [.slice none 0 0], 1, 24⟩ : TI) := tz30
theorem ty31 : E1.ti 31 = some (⟨.slice 2, [.slice none 0 0], 1, 24⟩ : TI) := tz31
theorem ty33 : E1.ti 33 = some (⟨.struct (flds Tryd.prog 33), [.int .i64 0, .int .i64 0, .slice none 0 0, .slice none 0 0, .slice none 0 0], 5, 88⟩ : TI) := tz33
theorem ty36 : E1.ti 36 = some (⟨.struct (flds Tryd.prog 36), [.int .i64 0, .slice none 0 0], 2, 32⟩ : TI) := tz36
theorem ty43 : E1.ti 43 = some (⟨.struct (flds Tryd.prog 43), [.int .i64 0, .slice none 0 0, .slice none 0 0], 3, 56⟩ : TI) := tz43
theorem ty58 : E1.ti 58 = some (⟨.struct (flds Tryd.prog 58), [.int .i64 0, .int .i64 0], 2, 16⟩ : TI) := tz58
theorem ty62 : E1.ti 62 = some (⟨.int .u64, [.int .u64 0], 1, 8⟩ : TI) := tz62
theorem ty64 : E1.ti 64 = some (⟨.struct (flds Tryd.prog 64), [.int .i64 0, .int .u64 0], 2, 16⟩ : TI) := tz64
theorem ty67 : E1.ti 67 = some (⟨.slice 79, [.slice none 0 0], 1, 24⟩ : TI) := tz67
theorem ty77 : E1.ti 77 = some (⟨.struct (flds Tryd.prog 77), [.int .i64 0, .int .i64 0, .int .i64 0], 3, 24⟩ : TI) := tz77
theorem ty79 : E1.ti 79 = some (⟨.struct (flds Tryd.prog 79), [.int .i64 0, .int .i64 0, .int .u64 0], 3, 24⟩ : TI) := tz79
theorem ty92 : E1.ti 92 = some (⟨.func #[3] #[64, 4] false, [.nilFunc], 1, 8⟩ : TI) := tz92
theorem ty102 : E1.ti 102 = some (⟨.slice 104, [.slice none 0 0], 1, 24⟩ : TI) := tz102
theorem ty104 : E1.ti 104 = some (⟨.struct (flds Tryd.prog 104), [.int .i64 0, .int .i64 0, .int .i64 0], 3, 24⟩ : TI) := tz104
theorem ty114 : E1.ti 114 = some (⟨.slice 64, [.slice none 0 0], 1, 24⟩ : TI) := tz114
theorem ty118 : E1.ti 118 = some (⟨.array 4 62, [.int .u64 0, .int .u64 0, .int .u64 0, .int .u64 0], 4, 32⟩ : TI) := tz118
end Ev
end Go.Proofs.YtnikcjnkcjondaaDoor
end
section
namespace Go.Proofs.YtnikcjnkcjondaaDoor
namespace Ev
open Go
set_option linter.unusedVariables false
set_option linter.unusedSimpArgs false
set_option maxRecDepth 100000
set_option maxHeartbeats 1000000
attribute [local irreducible] OpsL StL TnL WpL EndL
def r76 (x : Int × Int × Int) : List T := [iT .i64 x.1, iT .i64 x.2.1, iT .i64 x.2.2]
def r103 (x : Int × Int × Int) : List T := [iT .i64 x.1, iT .i64 x.2.1, iT .i64 x.2.2]
def r63 (x : Int × Int) : List T := [iT .i64 x.1, iT .u64 x.2]
def r3 (x : Int) : List T := [iT .i64 x]
def r2 (x : Int) : List T := [iT .i64 x]
def r32 (x : Int × Int × Sl (Int) × Sl (Int) × Sl (Int)) : List T := [iT .i64 x.1, iT .i64 x.2.1, Sl.t r3 x.2.2.1, Sl.t r3 x.2.2.2.1, Sl.t r2 x.2.2.2.2]
def r23 (x : Int × Int) : List T := [iT .u8 x.1, iT .u8 x.2]
def r57 (x : Int × Int) : List T := [iT .i64 x.1, iT .i64 x.2]
def r62 (x : Int) : List T := [iT .u64 x]
def r27 (x : Int × (Int × Int) × (Sl (Int × Int × Int)) × (Sl (Int × Int)) × (Sl (Int × Int)) × Sl (Int) × Bool) : List T := [iT .i64 x.1, iT .u8 x.2.1.1, iT .u8 x.2.1.2, Sl.t r76 x.2.2.1, Sl.t r57 x.2.2.2.1, Sl.t r57 x.2.2.2.2.1, Sl.t r62 x.2.2.2.2.2.1, bT x.2.2.2.2.2.2]
def r35 (x : Int × (Sl (Int × Int))) : List T := [iT .i64 x.1, Sl.t r57 x.2]
def r42 (x : Int × Sl (Int) × Sl (Int)) : List T := [iT .i64 x.1, Sl.t r62 x.2.1, Sl.t r2 x.2.2]
def r118 (x : Int × Int × Int × Int) : List T := [iT .u64 x.1, iT .u64 x.2.1, iT .u64 x.2.2.1, iT .u64 x.2.2.2]
def r78 (x : Int × (Int × Int)) : List T := [iT .i64 x.1, iT .i64 x.2.1, iT .u64 x.2.2]
theorem cv2_62_i64 (a : Int) : pureOf Tryd.prog (Go.convert 2 62 (.int .i64 a)) = some (.int .u64 (IntKind.u64.wrap a)) := by kernel_rfl
theorem cv3_5_i64 (a : Int) : pureOf Tryd.prog (Go.convert 3 5 (.int .i64 a)) = some (.int .u8 (IntKind.u8.wrap a)) := by kernel_rfl
theorem cv3_117_i64 (a : Int) : pureOf Tryd.prog (Go.convert 3 117 (.int .i64 a)) = some (.int .u64 (IntKind.u64.wrap a)) := by kernel_rfl
theorem cv5_3_u8 (a : Int) : pureOf Tryd.prog (Go.convert 5 3 (.int .u8 a)) = some (.int .i64 (IntKind.i64.wrap a)) := by kernel_rfl
theorem cv62_2_u64 (a : Int) : pureOf Tryd.prog (Go.convert 62 2 (.int .u64 a)) = some (.int .i64 (IntKind.i64.wrap a)) := by kernel_rfl
end Ev
end Go.Proofs.YtnikcjnkcjondaaDoor
end
section
namespace Go.Proofs.YtnikcjnkcjondaaDoor
namespace Ev
open Go
set_option linter.unusedVariables false
set_option linter.unusedSimpArgs false
set_option maxRecDepth 100000
set_option maxHeartbeats 1000000
attribute [local irreducible] OpsL StL TnL WpL EndL
theorem eqeqlA64 (x y : Operand) (a0 b0 a1 b1 : Int) : pureOf Tryd.prog (do eqGuard .eql 64 x y (.agg #[.int .i64 a0, .int .u64 a1]) (.agg #[.int .i64 b0, .int .u64 b1]); binOp .eql 64 (.agg #[.int .i64 a0, .int .u64 a1]) (.agg #[.int .i64 b0, .int .u64 b1])) = some (.bool ((a0 == b0 && (a1 == b1 && true)))) := by
 refine pof_eqlA (by kernel_rfl) ((pof_struct 9999 64 #[.int .i64 a0, .int .u64 a1] #[.int .i64 b0, .int .u64 b1] (fs := flds Tryd.prog 63) (by kernel_rfl) (by kernel_rfl)).trans ?_)
 rw [show (flds Tryd.prog 63).toList = [fld Tryd.prog 63 0, fld Tryd.prog 63 1] by kernel_rfl]
 exact ((pof_field (k := .i64) (k' := .i64) (by kernel_rfl) (by kernel_rfl) (by kernel_rfl) (by kernel_rfl)).trans (and_of ((pof_field (k := .u64) (k' := .u64) (by kernel_rfl) (by kernel_rfl) (by kernel_rfl) (by kernel_rfl)).trans (and_of pof_nofield))))
theorem eqeqlA64_t (x y : Operand) {a0 b0 a1 b1 : Int} (h : a0 = b0 ∧ a1 = b1) : pureOf Tryd.prog (do eqGuard .eql 64 x y (.agg #[.int .i64 a0, .int .u64 a1]) (.agg #[.int .i64 b0, .int .u64 b1]); binOp .eql 64 (.agg #[.int .i64 a0, .int .u64 a1]) (.agg #[.int .i64 b0, .int .u64 b1])) = some (.bool true) := by rw [eqeqlA64]; simp [h]
theorem eqeqlA64_f (x y : Operand) {a0 b0 a1 b1 : Int} (h : ¬ (a0 = b0 ∧ a1 = b1)) : pureOf Tryd.prog (do eqGuard .eql 64 x y (.agg #[.int .i64 a0, .int .u64 a1]) (.agg #[.int .i64 b0, .int .u64 b1]); binOp .eql 64 (.agg #[.int .i64 a0, .int .u64 a1]) (.agg #[.int .i64 b0, .int .u64 b1])) = some (.bool false) := by rw [eqeqlA64]; congr 2; revert h; by_cases e0 : a0 = b0 <;> by_cases e1 : a1 = b1 <;> simp_all
theorem eqneqB4 (x y : Operand) (a b : Bool) : pureOf Tryd.prog (do eqGuard .neq 4 x y (.bool a) (.bool b); binOp .neq 4 (.bool a) (.bool b)) = some (.bool (a != b)) := by cases a <;> cases b <;> kernel_rfl
theorem eqneqA58 (x y : Operand) (a0 b0 a1 b1 : Int) : pureOf Tryd.prog (do eqGuard .neq 58 x y (.agg #[.int .i64 a0, .int .i64 a1]) (.agg #[.int .i64 b0, .int .i64 b1]); binOp .neq 58 (.agg #[.int .i64 a0, .int .i64 a1]) (.agg #[.int .i64 b0, .int .i64 b1])) = some (.bool (!(a0 == b0 && (a1 == b1 && true)))) := by
 refine pof_neqA (by kernel_rfl) ((pof_struct 9999 58 #[.int .i64 a0, .int .i64 a1] #[.int .i64 b0, .int .i64 b1] (fs := flds Tryd.prog 57) (by kernel_rfl) (by kernel_rfl)).trans ?_)
 rw [show (flds Tryd.prog 57).toList = [fld Tryd.prog 57 0, fld Tryd.prog 57 1] by kernel_rfl]
 exact ((pof_field (k := .i64) (k' := .i64) (by kernel_rfl) (by kernel_rfl) (by kernel_rfl) (by kernel_rfl)).trans (and_of ((pof_field (k := .i64) (k' := .i64) (by kernel_rfl) (by kernel_rfl) (by kernel_rfl) (by kernel_rfl)).trans (and_of pof_nofield))))
theorem eqneqA58_t (x y : Operand) {a0 b0 a1 b1 : Int} (h : a0 = b0 ∧ a1 = b1) : pureOf Tryd.prog (do eqGuard .neq 58 x y (.agg #[.int .i64 a0, .int .i64 a1]) (.agg #[.int .i64 b0, .int .i64 b1]); binOp .neq 58 (.agg #[.int .i64 a0, .int .i64 a1]) (.agg #[.int .i64 b0, .int .i64 b1])) = some (.bool false) := by rw [eqneqA58]; simp [h]
theorem eqneqA58_f (x y : Operand) {a0 b0 a1 b1 : Int} (h : ¬ (a0 = b0 ∧ a1 = b1)) : pureOf Tryd.prog (do eqGuard .neq 58 x y (.agg #[.int .i64 a0, .int .i64 a1]) (.agg #[.int .i64 b0, .int .i64 b1]); binOp .neq 58 (.agg #[.int .i64 a0, .int .i64 a1]) (.agg #[.int .i64 b0, .int .i64 b1])) = some (.bool true) := by rw [eqneqA58]; congr 2; revert h; by_cases e0 : a0 = b0 <;> by_cases e1 : a1 = b1 <;> simp_all
theorem eqneqA64 (x y : Operand) (a0 b0 a1 b1 : Int) : pureOf Tryd.prog (do eqGuard .neq 64 x y (.agg #[.int .i64 a0, .int .u64 a1]) (.agg #[.int .i64 b0, .int .u64 b1]); binOp .neq 64 (.agg #[.int .i64 a0, .int .u64 a1]) (.agg #[.int .i64 b0, .int .u64 b1])) = some (.bool (!(a0 == b0 && (a1 == b1 && true)))) := by
 refine pof_neqA (by kernel_rfl) ((pof_struct 9999 64 #[.int .i64 a0, .int .u64 a1] #[.int .i64 b0, .int .u64 b1] (fs := flds Tryd.prog 63) (by kernel_rfl) (by kernel_rfl)).trans ?_)
 rw [show (flds Tryd.prog 63).toList = [fld Tryd.prog 63 0, fld Tryd.prog 63 1] by kernel_rfl]
 exact ((pof_field (k := .i64) (k' := .i64) (by kernel_rfl) (by kernel_rfl) (by kernel_rfl) (by kernel_rfl)).trans (and_of ((pof_field (k := .u64) (k' := .u64) (by kernel_rfl) (by kernel_rfl) (by kernel_rfl) (by kernel_rfl)).trans (and_of pof_nofield))))
theorem eqneqA64_t (x y : Operand) {a0 b0 a1 b1 : Int} (h : a0 = b0 ∧ a1 = b1) : pureOf Tryd.prog (do eqGuard .neq 64 x y (.agg #[.int .i64 a0, .int .u64 a1]) (.agg #[.int .i64 b0, .int .u64 b1]); binOp .neq 64 (.agg #[.int .i64 a0, .int .u64 a1]) (.agg #[.int .i64 b0, .int .u64 b1])) = some (.bool false) := by rw [eqneqA64]; simp [h]
theorem eqneqA64_f (x y : Operand) {a0 b0 a1 b1 : Int} (h : ¬ (a0 = b0 ∧ a1 = b1)) : pureOf Tryd.prog (do eqGuard .neq 64 x y (.agg #[.int .i64 a0, .int .u64 a1]) (.agg #[.int .i64 b0, .int .u64 b1]); binOp .neq 64 (.agg #[.int .i64 a0, .int .u64 a1]) (.agg #[.int .i64 b0, .int .u64 b1])) = some (.bool true) := by rw [eqneqA64]; congr 2; revert h; by_cases e0 : a0 = b0 <;> by_cases e1 : a1 = b1 <;> simp_all
end Ev
end Go.Proofs.YtnikcjnkcjondaaDoor
end
