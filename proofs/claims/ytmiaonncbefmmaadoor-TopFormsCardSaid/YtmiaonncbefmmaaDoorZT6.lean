/- Texts of a claim, joined. -/
import Derived.Test.YtmiaonncbefmmaaDoorZT5
import Derived.Laws.Bits64b
import Derived.Laws.Bits64
import Derived.Lib.TrailingZeros
import Derived.WalkKit
import Derived.BigQuiet
import Derived.WalkSpells
import Derived.WalkLawsBesides
import Derived.IntWalk
import Derived.Test.YtmiaonncbefmmaaDoorProg
set_option linter.unusedVariables false
set_option linter.unusedSimpArgs false
section
namespace Go.Proofs.YtmiaonncbefmmaaDoor
namespace Ev
open Go Go.RowKit
set_option linter.unusedVariables false
set_option linter.unusedSimpArgs false
abbrev bf : D := .one (bC false)
abbrev bt : D := .one (bC true)
abbrev iO (n : Int) : D := .one (iC .i64 n)
abbrev bO (b : Bool) : D := .one (bC b)
abbrev iI (n : Int) : C := iC .i64 n
abbrev uI (n : Int) : C := iC .u64 n
abbrev nC : C := .p true (.s false 0 [])
abbrev sC {α : Type} (r : α → List T) (s : Sl α) : C := .p true (Sl.t r s)
abbrev sF {α : Type} (r : α → List T) (s : Sl α) : C := .p false (Sl.t r s)
theorem sj {α : Type} {a b : α} (h : some a = some b) : a = b := Option.some.inj h
theorem wF {α : Type} {a b : α} {r : α} (h : (if false = true then a else b) = r) : b = r := h
theorem wT {α : Type} {a b : α} {r : α} (h : (if true = true then a else b) = r) : a = r := h
theorem p_lss_tZ {P : Program} {t : TypeId} {x y : Operand} {k : IntKind} {a b : Int} (h : a < b) : pureOf P (do eqGuard .lss t x y (.int k a) (.int k b); binOp .lss t (.int k a) (.int k b)) = some (.bool true) := p_lss_t P t x y k h
theorem p_lss_fZ {P : Program} {t : TypeId} {x y : Operand} {k : IntKind} {a b : Int} (h : ¬ a < b) : pureOf P (do eqGuard .lss t x y (.int k a) (.int k b); binOp .lss t (.int k a) (.int k b)) = some (.bool false) := p_lss_f P t x y k h
theorem p_leq_tZ {P : Program} {t : TypeId} {x y : Operand} {k : IntKind} {a b : Int} (h : a ≤ b) : pureOf P (do eqGuard .leq t x y (.int k a) (.int k b); binOp .leq t (.int k a) (.int k b)) = some (.bool true) := p_leq_t P t x y k h
theorem p_leq_fZ {P : Program} {t : TypeId} {x y : Operand} {k : IntKind} {a b : Int} (h : ¬ a ≤ b) : pureOf P (do eqGuard .leq t x y (.int k a) (.int k b); binOp .leq t (.int k a) (.int k b)) = some (.bool false) := p_leq_f P t x y k h
theorem p_gtr_tZ {P : Program} {t : TypeId} {x y : Operand} {k : IntKind} {a b : Int} (h : a > b) : pureOf P (do eqGuard .gtr t x y (.int k a) (.int k b); binOp .gtr t (.int k a) (.int k b)) = some (.bool true) := p_gtr_t P t x y k h
theorem p_gtr_fZ {P : Program} {t : TypeId} {x y : Operand} {k : IntKind} {a b : Int} (h : ¬ a > b) : pureOf P (do eqGuard .gtr t x y (.int k a) (.int k b); binOp .gtr t (.int k a) (.int k b)) = some (.bool false) := p_gtr_f P t x y k h
theorem p_geq_tZ {P : Program} {t : TypeId} {x y : Operand} {k : IntKind} {a b : Int} (h : a ≥ b) : pureOf P (do eqGuard .geq t x y (.int k a) (.int k b); binOp .geq t (.int k a) (.int k b)) = some (.bool true) := p_geq_t P t x y k h
theorem p_geq_fZ {P : Program} {t : TypeId} {x y : Operand} {k : IntKind} {a b : Int} (h : ¬ a ≥ b) : pureOf P (do eqGuard .geq t x y (.int k a) (.int k b); binOp .geq t (.int k a) (.int k b)) = some (.bool false) := p_geq_f P t x y k h
theorem p_eql_tZ {P : Program} {t : TypeId} {x y : Operand} {k : IntKind} {a b : Int} (h : a = b) : pureOf P (do eqGuard .eql t x y (.int k a) (.int k b); binOp .eql t (.int k a) (.int k b)) = some (.bool true) := p_eql_t P t x y k h
theorem p_eql_fZ {P : Program} {t : TypeId} {x y : Operand} {k : IntKind} {a b : Int} (h : ¬ a = b) : pureOf P (do eqGuard .eql t x y (.int k a) (.int k b); binOp .eql t (.int k a) (.int k b)) = some (.bool false) := p_eql_f P t x y k h
theorem p_neq_tZ {P : Program} {t : TypeId} {x y : Operand} {k : IntKind} {a b : Int} (h : a ≠ b) : pureOf P (do eqGuard .neq t x y (.int k a) (.int k b); binOp .neq t (.int k a) (.int k b)) = some (.bool true) := p_neq_t P t x y k h
theorem p_neq_fZ {P : Program} {t : TypeId} {x y : Operand} {k : IntKind} {a b : Int} (h : ¬ a ≠ b) : pureOf P (do eqGuard .neq t x y (.int k a) (.int k b); binOp .neq t (.int k a) (.int k b)) = some (.bool false) := p_neq_f P t x y k h
theorem p_addY {P : Program} {t : TypeId} {x y : Operand} {k : IntKind} {a b : Int} : pureOf P (do eqGuard .add t x y (.int k a) (.int k b); binOp .add t (.int k a) (.int k b)) = some (.int k (k.wrap (a + b))) := p_add P t x y k a b
theorem p_subY {P : Program} {t : TypeId} {x y : Operand} {k : IntKind} {a b : Int} : pureOf P (do eqGuard .sub t x y (.int k a) (.int k b); binOp .sub t (.int k a) (.int k b)) = some (.int k (k.wrap (a - b))) := p_sub P t x y k a b
theorem p_mulY {P : Program} {t : TypeId} {x y : Operand} {k : IntKind} {a b : Int} : pureOf P (do eqGuard .mul t x y (.int k a) (.int k b); binOp .mul t (.int k a) (.int k b)) = some (.int k (k.wrap (a * b))) := p_mul P t x y k a b
section
variable {E : Env} {y : Nat → YldP} {n nt : Nat} {ops : Array Oper} {o : Oper} {r : List Oper} {K : St → Prop} {f : Nat → D} {L : BL} {d : Nat} {Q : Ex → St → Prop}
theorem pq {v : D} (hs : PS E n nt f L o.op v) (h : OpsL E y n nt ops r K (up f d v) L) (hw : wantF ops o nt f = some true := by exact rfl) (hd : o.dst = some d := by exact rfl) (hn : Nat.blt d nt = true := by exact rfl) : OpsL E y n nt ops (o :: r) K f L := ol_put hw hd hn hs h
theorem sq {v : D} {i : Nat} (hs : PS E n nt f L o.op v) (h : StL E n nt ops r (i + 1) K (up f d v) L) (hw : wantF ops o nt f = some true := by exact rfl) (hd : o.dst = some d := by exact rfl) (hn : Nat.blt d nt = true := by exact rfl) : StL E n nt ops (o :: r) i K f L := st_put hw hd hn hs h
theorem os (h : OpsL E y n nt ops r K (up f d undefD) L) (hw : wantF ops o nt f = some false := by exact rfl) (hd : o.dst = some d := by exact rfl) (hn : Nat.blt d nt = true := by exact rfl) : OpsL E y n nt ops (o :: r) K f L := ol_skip hw hd hn h
theorem ss {i : Nat} (h : StL E n nt ops r (i + 1) K (up f d undefD) L) (hw : wantF ops o nt f = some false := by exact rfl) (hd : o.dst = some d := by exact rfl) (hn : Nat.blt d nt = true := by exact rfl) : StL E n nt ops (o :: r) i K f L := st_skip hw hd hn h
theorem qm {x : Operand} (v : D) (hx : ov nt f x = some v := by exact rfl) : PS E n nt f L (.move x) v := q_move hx
theorem qa {x : Operand} (v : D) (hx : ov nt f x = some v := by exact rfl) : PS E n nt f L (.assign x) v := q_assign hx
theorem qpt {c a b : Operand} {fr : Bool} (v : D) (hc : ov nt f c = some (.one (.p fr (.v (.bool true)))) := by exact rfl) (hx : ov nt f a = some v := by exact rfl) : PS E n nt f L (.pick c a b) v := q_pickT hc hx
theorem qpf {c a b : Operand} {fr : Bool} (v : D) (hc : ov nt f c = some (.one (.p fr (.v (.bool false)))) := by exact rfl) (hx : ov nt f b = some v := by exact rfl) : PS E n nt f L (.pick c a b) v := q_pickF hc hx
theorem ql {ty : TypeId} {x : Operand} {k i j sz bz : Nat} {ag : Bool} {es : List (List C)} {e cs : List C} (v : D) (p : Nat) (hz : sizeAt E.ti ty = some (sz, ag)) (hx : ov nt f x = some (.one (.ptr k i j)) := by exact rfl) (hp : L[p]? = some [(k, bz, es)] := by exact rfl) (he : es[i]? = some e := by exact rfl) (hc : cut e j (cond ag sz 1) = some cs := by exact rfl) (hv : ofCells ag cs = some v := by exact rfl) : PS E n nt f L (.load ty x) v := q_loadP p hx hz hp he hc hv
theorem qc {c : Call} {k : FuncId} {vs : List (Bool × TD)} {vs2 rs : List TD} (v : D) (args : List D) (hk : RunsP E n k vs2 (.fresh, rs)) (hv : Vw L args vs) (hc : isCall (.call c) = some c := by exact rfl) (hr : resolveD c (ov nt f) = some (k, args) := by exact rfl) (h2 : vs.map (·.2) = vs2 := by exact rfl) (hrv : tupD (rs.map (unview true)) = v := by exact rfl) : PS E n nt f L (.call c) v := q_callF hk hc hr hv h2 hrv
theorem qb {op : BinOp} {ty sh : TypeId} {x y : Operand} {fa fb : Bool} {ka kb : IntKind} {a b : Int} {v : Value} (hp : pureOf E.P (do eqGuard op ty x y (.int ka a) (.int kb b); binOp op ty (.int ka a) (.int kb b)) = some v) (hx : ov nt f x = some (.one (.p fa (.v (.int ka a)))) := by exact rfl) (hy : ov nt f y = some (.one (.p fb (.v (.int kb b)))) := by exact rfl) (h1 : one1 v = true := by exact rfl) : PS E n nt f L (.binOp op ty x y sh) (mk v) := q_bin hx hy hp h1
theorem ow {ty : TypeId} {a x : Operand} {k i j sz bz : Nat} {ag : Bool} {es : List (List C)} {e e' cs : List C} {v : D} {L' : BL} (es' : List (List C)) (p : Nat) (hz : sizeAt E.ti ty = some (sz, ag)) (h : OpsL E y n nt ops r K f L') (hop : o.op = .store ty a x := by exact rfl) (ha : ov nt f a = some (.one (.ptr k i j)) := by exact rfl) (hx : ov nt f x = some v := by exact rfl) (hd : dcells v = some cs := by exact rfl) (hs : Nat.beq cs.length sz = true := by exact rfl) (hp : L[p]? = some [(k, bz, es)] := by exact rfl) (he : es[i]? = some e := by exact rfl) (ht : patch e j cs = some e' := by exact rfl) (hes : es.set i e' = es' := by exact rfl) (hw : wantF ops o nt f = some true := by exact rfl) (hdst : o.dst = none := by exact rfl) (hL : L.set p [(k, bz, es')] = L' := by exact rfl) : OpsL E y n nt ops (o :: r) K f L := ol_wr hw hdst (by rw [hop]; exact q_store p ha hx hd hz hs hp he ht hes) hL h
theorem tq {v : D} {i w b : Nat} {O : List (List Nat)} {N : List (Bool × List Nat)} {R : List (List Nat)} {A : BL} (is : List Nat) (hA : is.filterMap (fun i => L[i]?) = A) (hm : ∀ x ∈ A.flatten, x.1 ∉ (R.getD i []).flatMap (turnsOf b O N)) (hs : PS E n nt f A o.op v) (h : TnL E n nt ops r (i + 1) w O N R b K (up f d v) L) (hw : wantF ops o nt f = some true := by exact rfl) (hd : o.dst = some d := by exact rfl) (hn : Nat.blt d nt = true := by exact rfl) (hn2 : is.Nodup := by decide) (hu : turnsOf b O N i = [] := by exact rfl) : TnL E n nt ops (o :: r) i w O N R b K f L := tn_put hw hd hn is hn2 hA hm hu hs h
theorem oW {d1 d2 : D} {ds : List D} (h : Heap) (hb : HB h L) : ownRes h (d1 :: d2 :: ds) = false := own_no2
theorem oG {cs : List C} (h : Heap) (hb : HB h L) : ownRes h [.agg cs] = false := own_agg
theorem oP {fr : Bool} {t : T} (h : Heap) (hb : HB h L) : ownRes h [.one (.p fr t)] = false := own_p
theorem eF1 {t : Tmp} {fr : Bool} {x : Value} {rs : List TD} (hr : ov nt f (.tmp t) = some (.one (.p fr (.v x))) := by exact rfl) (hrs : [TD.one (.v x)] = rs := by exact rfl) : EndL nt (endQ E [.tmp t] (.fresh, rs)) .ret f L := E_endF (.inr rfl) (res_tmp hr res_nil) (vw_cons (vd_one vc_v) vw_nil) (fun h hb => own_p) rfl hrs
theorem eR {KK : St → Prop} (h : EndL nt Q .ret f L) : EndL nt (thenQ KK Q) .ret f L := h
theorem bR {id : Nat} (h : EndL nt Q .ret f L) : EndL nt (blkQ id Q) .ret f L := h
theorem bN {id : Nat} (h : EndL nt Q .normal f L) : EndL nt (blkQ id Q) .normal f L := h
theorem bH {id : Nat} (h : EndL nt Q .normal f L) : EndL nt (blkQ id Q) (.exit id) f L := E_blkH h
theorem cT {c : Operand} {a b : Code} {fr : Bool} (hc : ov nt f c = some (.one (.p fr (.v (.bool true))))) (h : WpL E y n nt a Q f L) : WpL E y n nt (.cond c a b) Q f L := L_condT hc h
theorem cF {c : Operand} {a b : Code} {fr : Bool} (hc : ov nt f c = some (.one (.p fr (.v (.bool false))))) (h : WpL E y n nt b Q f L) : WpL E y n nt (.cond c a b) Q f L := L_condF hc h
theorem lK (h : EndL nt Q .normal f L) : WpL E y n nt .skip Q f L := L_skip h
theorem lR (h : EndL nt Q .ret f L) : WpL E y n nt .ret Q f L := L_ret h
theorem lB {id : Nat} {c : Code} (h : WpL E y n nt c (blkQ id Q) f L) : WpL E y n nt (.block id c) Q f L := L_block h
theorem eS {b : Code} (h : WpL E y n nt b Q f L) : EndL nt (thenQ (WpC E y n b Q) Q) .normal f L := E_seq h
theorem oE (h : EndL nt Q .normal f L) : OpsL E y n nt ops [] (Q .normal) f L := ol_end h
theorem lS {a b : Code} (h : WpL E y n nt a (thenQ (WpC E y n b Q) Q) f L) : WpL E y n nt (.seq a b) Q f L := L_seq h
theorem lO {id : Nat} {l : List Oper} (h : OpsL E y n nt l.toArray l (Q .normal) f L) : WpL E y n nt (.region id l.toArray false) Q f L := L_ops h
theorem oN {id : Nat} {l : List Oper} {b : Code} (h : OpsL E y n nt l.toArray l (thenQ (WpC E y n b Q) Q .normal) f L) : OpsL E y n nt ops [] (thenQ (WpC E y n (.seq (.region id l.toArray false) b) Q) Q .normal) f L := ol_end (E_seq (L_seq (L_ops h)))
theorem oR {id : Nat} {l : List Oper} (h : OpsL E y n nt l.toArray l (Q .normal) f L) : OpsL E y n nt ops [] (thenQ (WpC E y n (.region id l.toArray false) Q) Q .normal) f L := ol_end (E_seq (L_ops h))
end
end Ev
end Go.Proofs.YtmiaonncbefmmaaDoor
end
section
namespace Go.Proofs.YtmiaonncbefmmaaDoor
open Go Go.RowKit
set_option linter.unusedVariables false
theorem tz64_key' (x a : Nat) (hx : x < 18446744073709551616) (hx0 : x ≠ 0) (hlow : x &&& (18446744073709551616 - x) = a) :
  IntKind.u64.wrap (bits BinOp.and IntKind.u64 (x : Int) (IntKind.u64.wrap (-(x : Int))) * 285870213051353865) / 288230376151711744 = ((a * 285870213051353865 % 18446744073709551616 / 288230376151711744 : Nat) : Int) := by
 have e1 : IntKind.u64.wrap (-(x : Int)) = ((18446744073709551616 - x : Nat) : Int) := by rw [IntKind.wrap_u64]; omega
 rw [e1, bits_and_u64_nat x _ hx (by omega), hlow, IntKind.wrap_u64]
 omega
set_option maxHeartbeats 1000000 in
theorem tz64_core (x k idx : Nat) (w : World) (hx0 : ((x : Int) == 0) = false)
  (key : IntKind.u64.wrap (bits BinOp.and IntKind.u64 (x : Int) (IntKind.u64.wrap (-(x : Int))) * 285870213051353865) / 288230376151711744 = (idx : Int))
  (hi : idx < 64) (hk : k < 64) (hcell : w.cell? ⟨0, idx, none⟩ = some (.int .u8 k)) :
  Calls Tryd.prog 47 #[.int .u64 x] w fun e w' => e = .returned (.int .i64 k) ∧ w = w' := by
 go_enter Tryd.func47, Tryd.ntmps47
 go_wp2_with (simp only [key])
 go_ret
 exact ⟨rfl, rfl⟩
namespace Ev
theorem tz64_any (x : Nat) (hx : x < 18446744073709551616) (hx0 : x ≠ 0) (w : World) (hT : TabW w) :
  Calls Tryd.prog 47 #[.int .u64 x] w fun e w' => e = .returned (.int .i64 (Lib.ctz 64 x)) ∧ w = w' := by
 obtain ⟨hlow, hk⟩ := Lib.lowest_bit 64 x hx0 hx
 obtain ⟨hi, htab⟩ := Lib.deBruijn64_at _ hk
 have hcell := hT.2 _ hi
 rw [htab] at hcell
 exact tz64_core x _ _ w (by simp; omega) (tz64_key' x _ hx hx0 hlow) hi hk hcell
def tzF : List TD → Option (Kind × List TD)
 | [.one (.v (.int .u64 x))] => if 0 < x ∧ x < 18446744073709551616 then some (.fresh, [.one (.v (.int .i64 (Lib.ctz 64 x.toNat)))]) else none
 | _ => none
def TZ (x : Int) : Option Int := if 0 < x ∧ x < 18446744073709551616 then some ((Lib.ctz 64 x.toNat : Nat) : Int) else none
theorem tz_ok (vs : List TD) (kind : Kind) (rs : List TD) (h : tzF vs = some (kind, rs)) : PureOk Tryd.prog 47 vs kind rs ∧ Enters Tryd.prog 47 := by
 unfold tzF at h
 split at h
 ·rename_i x
  split at h
  ·rename_i hx
   simp only [Option.some.injEq, Prod.mk.injEq] at h
   obtain ⟨rfl, rfl⟩ := h
   refine ⟨fun w F ys hL hF hr => ?_, ⟨_, _, Tryd.func47, by kernel_rfl, by unfold Tryd.f47; rfl⟩⟩
   obtain ⟨hlen, hi⟩ := hr
   match ys, hlen with
   | [y], _ =>
    obtain ⟨y', e1, e2⟩ := hi 0 _ rfl
    simp only [List.getElem?_cons_zero, Option.some.injEq] at e1
    subst e1
    have ey : y = .int .u64 x := by
     cases e2 with
     | one t y h => cases h with | v x hx => rfl
    subst ey
    obtain ⟨n, rfl⟩ := Int.eq_ofNat_of_zero_le (show 0 ≤ x by omega)
    refine (tz64_any n (by omega) (by omega) w hL.2).mono fun e w' ⟨he, hw⟩ => ?_
    subst hw
    refine ⟨_, he, ?_, fun hk => (by cases hk), Below.refl _ _⟩
    exact .one _ _ (.v _ rfl)
  ·simp at h
 ·simp at h
end Ev
end Go.Proofs.YtmiaonncbefmmaaDoor
end
section
namespace Go.Proofs.YtmiaonncbefmmaaDoor
namespace Ev
open Go
set_option linter.unusedVariables false
set_option linter.unusedSimpArgs false
set_option maxRecDepth 100000
set_option maxHeartbeats 1000000
attribute [local irreducible] OpsL StL TnL WpL EndL
theorem tz1 : tiOf Tryd.prog 1 = some (⟨.func #[] #[] false, [.nilFunc], 1, 8⟩ : TI) := by kernel_rfl
theorem tz2 : tiOf Tryd.prog 2 = some (⟨.int .i64, [.int .i64 0], 1, 8⟩ : TI) := by kernel_rfl
theorem tz3 : tiOf Tryd.prog 3 = some (⟨.int .i64, [.int .i64 0], 1, 8⟩ : TI) := by kernel_rfl
theorem tz5 : tiOf Tryd.prog 5 = some (⟨.int .u8, [.int .u8 0], 1, 1⟩ : TI) := by kernel_rfl
theorem tz22 : tiOf Tryd.prog 22 = some (⟨.slice 45, [.slice none 0 0], 1, 24⟩ : TI) := by kernel_rfl
theorem tz23 : tiOf Tryd.prog 23 = some (⟨.array 2 5, [.int .u8 0, .int .u8 0], 2, 2⟩ : TI) := by kernel_rfl
theorem tz25 : tiOf Tryd.prog 25 = some (⟨.struct (flds Tryd.prog 25), [.int .i64 0, .slice none 0 0], 2, 32⟩ : TI) := by kernel_rfl
theorem pl25 : places (tiOf Tryd.prog) (⟨.struct (flds Tryd.prog 25), [.int .i64 0, .slice none 0 0], 2, 32⟩ : TI) = some fun i => ([(0, 1), (1, 1)] : List (Nat × Nat))[i]? := by kernel_rfl
theorem tz27 : tiOf Tryd.prog 27 = some (⟨.slice 66, [.slice none 0 0], 1, 24⟩ : TI) := by kernel_rfl
theorem tz28 : tiOf Tryd.prog 28 = some (⟨.slice 2, [.slice none 0 0], 1, 24⟩ : TI) := by kernel_rfl
theorem tz30 : tiOf Tryd.prog 30 = some (⟨.struct (flds Tryd.prog 30), [.int .i64 0, .slice none 0 0, .slice none 0 0], 3, 56⟩ : TI) := by kernel_rfl
theorem pl30 : places (tiOf Tryd.prog) (⟨.struct (flds Tryd.prog 30), [.int .i64 0, .slice none 0 0, .slice none 0 0], 3, 56⟩ : TI) = some fun i => ([(0, 1), (1, 1), (2, 1)] : List (Nat × Nat))[i]? := by kernel_rfl
theorem tz45 : tiOf Tryd.prog 45 = some (⟨.struct (flds Tryd.prog 45), [.int .i64 0, .int .i64 0], 2, 16⟩ : TI) := by kernel_rfl
theorem pl45 : places (tiOf Tryd.prog) (⟨.struct (flds Tryd.prog 45), [.int .i64 0, .int .i64 0], 2, 16⟩ : TI) = some fun i => ([(0, 1), (1, 1)] : List (Nat × Nat))[i]? := by kernel_rfl
theorem tz51 : tiOf Tryd.prog 51 = some (⟨.slice 3, [.slice none 0 0], 1, 24⟩ : TI) := by kernel_rfl
theorem tz57 : tiOf Tryd.prog 57 = some (⟨.slice 25, [.slice none 0 0], 1, 24⟩ : TI) := by kernel_rfl
theorem tz66 : tiOf Tryd.prog 66 = some (⟨.int .u64, [.int .u64 0], 1, 8⟩ : TI) := by kernel_rfl
theorem tz69 : tiOf Tryd.prog 69 = some (⟨.slice 71, [.slice none 0 0], 1, 24⟩ : TI) := by kernel_rfl
theorem tz71 : tiOf Tryd.prog 71 = some (⟨.struct (flds Tryd.prog 71), [.int .i64 0, .int .i64 0, .int .i64 0], 3, 24⟩ : TI) := by kernel_rfl
theorem pl71 : places (tiOf Tryd.prog) (⟨.struct (flds Tryd.prog 71), [.int .i64 0, .int .i64 0, .int .i64 0], 3, 24⟩ : TI) = some fun i => ([(0, 1), (1, 1), (2, 1)] : List (Nat × Nat))[i]? := by kernel_rfl
theorem tz83 : tiOf Tryd.prog 83 = some (⟨.slice 86, [.slice none 0 0], 1, 24⟩ : TI) := by kernel_rfl
theorem tz86 : tiOf Tryd.prog 86 = some (⟨.struct (flds Tryd.prog 86), [.int .i64 0, .int .u64 0], 2, 16⟩ : TI) := by kernel_rfl
theorem pl86 : places (tiOf Tryd.prog) (⟨.struct (flds Tryd.prog 86), [.int .i64 0, .int .u64 0], 2, 16⟩ : TI) = some fun i => ([(0, 1), (1, 1)] : List (Nat × Nat))[i]? := by kernel_rfl
theorem sz1 : sizeAt (tiOf Tryd.prog) 1 = some (1, false) := by kernel_rfl
theorem sz2 : sizeAt (tiOf Tryd.prog) 2 = some (1, false) := by kernel_rfl
theorem sz3 : sizeAt (tiOf Tryd.prog) 3 = some (1, false) := by kernel_rfl
theorem sz5 : sizeAt (tiOf Tryd.prog) 5 = some (1, false) := by kernel_rfl
theorem sz22 : sizeAt (tiOf Tryd.prog) 22 = some (1, false) := by kernel_rfl
theorem el22 : elemAt (tiOf Tryd.prog) 22 = some 2 := by kernel_rfl
theorem sz25 : sizeAt (tiOf Tryd.prog) 25 = some (2, true) := by kernel_rfl
theorem fa25_0 : fieldAt (tiOf Tryd.prog) 25 0 = some (0, 1, false) := by kernel_rfl
theorem fa25_1 : fieldAt (tiOf Tryd.prog) 25 1 = some (1, 1, false) := by kernel_rfl
theorem sz27 : sizeAt (tiOf Tryd.prog) 27 = some (1, false) := by kernel_rfl
theorem el27 : elemAt (tiOf Tryd.prog) 27 = some 1 := by kernel_rfl
theorem sz28 : sizeAt (tiOf Tryd.prog) 28 = some (1, false) := by kernel_rfl
theorem el28 : elemAt (tiOf Tryd.prog) 28 = some 1 := by kernel_rfl
theorem sz30 : sizeAt (tiOf Tryd.prog) 30 = some (3, true) := by kernel_rfl
theorem fa30_0 : fieldAt (tiOf Tryd.prog) 30 0 = some (0, 1, false) := by kernel_rfl
theorem fa30_1 : fieldAt (tiOf Tryd.prog) 30 1 = some (1, 1, false) := by kernel_rfl
theorem fa30_2 : fieldAt (tiOf Tryd.prog) 30 2 = some (2, 1, false) := by kernel_rfl
theorem sz45 : sizeAt (tiOf Tryd.prog) 45 = some (2, true) := by kernel_rfl
theorem fa45_0 : fieldAt (tiOf Tryd.prog) 45 0 = some (0, 1, false) := by kernel_rfl
theorem fa45_1 : fieldAt (tiOf Tryd.prog) 45 1 = some (1, 1, false) := by kernel_rfl
theorem el51 : elemAt (tiOf Tryd.prog) 51 = some 1 := by kernel_rfl
theorem el57 : elemAt (tiOf Tryd.prog) 57 = some 2 := by kernel_rfl
theorem sz66 : sizeAt (tiOf Tryd.prog) 66 = some (1, false) := by kernel_rfl
theorem el69 : elemAt (tiOf Tryd.prog) 69 = some 3 := by kernel_rfl
theorem sz71 : sizeAt (tiOf Tryd.prog) 71 = some (3, true) := by kernel_rfl
theorem fa71_0 : fieldAt (tiOf Tryd.prog) 71 0 = some (0, 1, false) := by kernel_rfl
theorem fa71_1 : fieldAt (tiOf Tryd.prog) 71 1 = some (1, 1, false) := by kernel_rfl
theorem fa71_2 : fieldAt (tiOf Tryd.prog) 71 2 = some (2, 1, false) := by kernel_rfl
theorem el83 : elemAt (tiOf Tryd.prog) 83 = some 2 := by kernel_rfl
theorem sz86 : sizeAt (tiOf Tryd.prog) 86 = some (2, true) := by kernel_rfl
theorem fa86_0 : fieldAt (tiOf Tryd.prog) 86 0 = some (0, 1, false) := by kernel_rfl
theorem fa86_1 : fieldAt (tiOf Tryd.prog) 86 1 = some (1, 1, false) := by kernel_rfl
theorem mixed0 : Tryd.prog.follows .mixedOrders = true := by kernel_rfl
theorem names0 : namesOk Tryd.prog = true := by kernel_rfl
def preAx : Ax := (addAx (fun _ => none) 47 tzF)
theorem preAx_ok : AxOk Tryd.prog preAx := (axOk_add (axOk_none _) tz_ok)
def inlF : List TD → Option (Kind × List TD) := fun _ => none
def inlAx : Ax := (addAx (addAx (addAx (addAx preAx 16 inlF) 23 inlF) 33 inlF) 38 inlF)
theorem inlAx_ok : AxOk Tryd.prog inlAx := (axOk_add (axOk_add (axOk_add (axOk_add preAx_ok fun vs kind rs h => by simp [inlF] at h) fun vs kind rs h => by simp [inlF] at h) fun vs kind rs h => by simp [inlF] at h) fun vs kind rs h => by simp [inlF] at h)
noncomputable def E1 : Env := envOf Tryd.prog inlAx
theorem E1_ok : E1.Ok := envOf_ok mixed0 names0 inlAx_ok
theorem E1_fn : E1.fn = fiOf Tryd.prog := envOf_fn _ _
theorem TZ_r (m : Nat) {n1 : Int} {out : Int} (h : TZ n1 = some out) : RunsP E1 (m + 1) 47 [.one (iT .u64 n1)] (.fresh, [.one (iT .i64 out)]) := by
 unfold TZ at h
 split at h
 ·rename_i hx
  obtain rfl := Option.some.inj h
  exact runsP_ax (F := tzF) rfl (by show tzF [.one (.v (.int .u64 n1))] = _; unfold tzF; simp only; exact if_pos hx)
 ·simp at h
theorem ax16 : E1.ax 16 = some fun _ => none := rfl
theorem ax23 : E1.ax 23 = some fun _ => none := rfl
theorem ax33 : E1.ax 33 = some fun _ => none := rfl
theorem ax38 : E1.ax 38 = some fun _ => none := rfl
theorem ty1 : E1.ti 1 = some (⟨.func #[] #[] false, [.nilFunc], 1, 8⟩ : TI) := tz1
theorem ty2 : E1.ti 2 = some (⟨.int .i64, [.int .i64 0], 1, 8⟩ : TI) := tz2
theorem ty3 : E1.ti 3 = some (⟨.int .i64, [.int .i64 0], 1, 8⟩ : TI) := tz3
theorem ty5 : E1.ti 5 = some (⟨.int .u8, [.int .u8 0], 1, 1⟩ : TI) := tz5
theorem ty22 : E1.ti 22 = some (⟨.slice 45, [.slice none 0 0], 1, 24⟩ : TI) := tz22
theorem ty23 : E1.ti 23 = some (⟨.array 2 5, [.int .u8 0, .int .u8 0], 2, 2⟩ : TI) := tz23
theorem ty25 : E1.ti 25 = some (⟨.struct (flds Tryd.prog 25), [.int .i64 0, .slice none 0 0], 2, 32⟩ : TI) := tz25
theorem ty27 : E1.ti 27 = some (⟨.slice 66, [.slice none 0 0], 1, 24⟩ : TI) := tz27
theorem ty28 : E1.ti 28 = some (⟨.slice 2, [.slice none 0 0], 1, 24⟩ : TI) := tz28
theorem ty30 : E1.ti 30 = some (⟨.struct (flds Tryd.prog 30), [.int .i64 0, .slice none 0 0, .slice none 0 0], 3, 56⟩ : TI) := tz30
theorem ty45 : E1.ti 45 = some (⟨.struct (flds Tryd.prog 45), [.int .i64 0, .int .i64 0], 2, 16⟩ : TI) := tz45
theorem ty51 : E1.ti 51 = some (⟨.slice 3, [.slice none 0 0], 1, 24⟩ : TI) := tz51
theorem ty57 : E1.ti 57 = some (⟨.slice 25, [.slice none 0 0], 1, 24⟩ : TI) := tz57
theorem ty66 : E1.ti 66 = some (⟨.int .u64, [.int .u64 0], 1, 8⟩ : TI) := tz66
theorem ty69 : E1.ti 69 = some (⟨.slice 71, [.slice none 0 0], 1, 24⟩ : TI) := tz69
theorem ty71 : E1.ti 71 = some (⟨.struct (flds Tryd.prog 71), [.int .i64 0, .int .i64 0, .int .i64 0], 3, 24⟩ : TI) := tz71
theorem ty83 : E1.ti 83 = some (⟨.slice 86, [.slice none 0 0], 1, 24⟩ : TI) := tz83
theorem ty86 : E1.ti 86 = some (⟨.struct (flds Tryd.prog 86), [.int .i64 0, .int .u64 0], 2, 16⟩ : TI) := tz86
end Ev
end Go.Proofs.YtmiaonncbefmmaaDoor
end
section
namespace Go.Proofs.YtmiaonncbefmmaaDoor
namespace Ev
open Go
set_option linter.unusedVariables false
set_option linter.unusedSimpArgs false
set_option maxRecDepth 100000
set_option maxHeartbeats 1000000
attribute [local irreducible] OpsL StL TnL WpL EndL
def r70 (x : Int × Int × Int) : List T := [iT .i64 x.1, iT .i64 x.2.1, iT .i64 x.2.2]
def r85 (x : Int × Int) : List T := [iT .i64 x.1, iT .u64 x.2]
def r44 (x : Int × Int) : List T := [iT .i64 x.1, iT .i64 x.2]
def r24 (x : Int × (Sl (Int × Int))) : List T := [iT .i64 x.1, Sl.t r44 x.2]
def r66 (x : Int) : List T := [iT .u64 x]
def r3 (x : Int) : List T := [iT .i64 x]
def r2 (x : Int) : List T := [iT .i64 x]
def r29 (x : Int × Sl (Int) × Sl (Int)) : List T := [iT .i64 x.1, Sl.t r66 x.2.1, Sl.t r2 x.2.2]
def r23 (x : Int × Int) : List T := [iT .u8 x.1, iT .u8 x.2]
theorem cv2_66_i64 (a : Int) : pureOf Tryd.prog (Go.convert 2 66 (.int .i64 a)) = some (.int .u64 (IntKind.u64.wrap a)) := by kernel_rfl
theorem cv3_91_i64 (a : Int) : pureOf Tryd.prog (Go.convert 3 91 (.int .i64 a)) = some (.int .u64 (IntKind.u64.wrap a)) := by kernel_rfl
theorem cv5_3_u8 (a : Int) : pureOf Tryd.prog (Go.convert 5 3 (.int .u8 a)) = some (.int .i64 (IntKind.i64.wrap a)) := by kernel_rfl
theorem cv66_2_u64 (a : Int) : pureOf Tryd.prog (Go.convert 66 2 (.int .u64 a)) = some (.int .i64 (IntKind.i64.wrap a)) := by kernel_rfl
theorem cv91_3_u64 (a : Int) : pureOf Tryd.prog (Go.convert 91 3 (.int .u64 a)) = some (.int .i64 (IntKind.i64.wrap a)) := by kernel_rfl
end Ev
end Go.Proofs.YtmiaonncbefmmaaDoor
end
section
namespace Go.Proofs.YtmiaonncbefmmaaDoor
namespace Ev
open Go
set_option linter.unusedVariables false
set_option linter.unusedSimpArgs false
set_option maxRecDepth 100000
set_option maxHeartbeats 1000000
attribute [local irreducible] OpsL StL TnL WpL EndL
theorem eqeqlA86 (x y : Operand) (a0 b0 a1 b1 : Int) : pureOf Tryd.prog (do eqGuard .eql 86 x y (.agg #[.int .i64 a0, .int .u64 a1]) (.agg #[.int .i64 b0, .int .u64 b1]); binOp .eql 86 (.agg #[.int .i64 a0, .int .u64 a1]) (.agg #[.int .i64 b0, .int .u64 b1])) = some (.bool ((a0 == b0 && (a1 == b1 && true)))) := by
 refine pof_eqlA (by kernel_rfl) ((pof_struct 9999 86 #[.int .i64 a0, .int .u64 a1] #[.int .i64 b0, .int .u64 b1] (fs := flds Tryd.prog 85) (by kernel_rfl) (by kernel_rfl)).trans ?_)
 rw [show (flds Tryd.prog 85).toList = [fld Tryd.prog 85 0, fld Tryd.prog 85 1] by kernel_rfl]
 exact ((pof_field (k := .i64) (k' := .i64) (by kernel_rfl) (by kernel_rfl) (by kernel_rfl) (by kernel_rfl)).trans (and_of ((pof_field (k := .u64) (k' := .u64) (by kernel_rfl) (by kernel_rfl) (by kernel_rfl) (by kernel_rfl)).trans (and_of pof_nofield))))
theorem eqeqlA86_t (x y : Operand) {a0 b0 a1 b1 : Int} (h : a0 = b0 ∧ a1 = b1) : pureOf Tryd.prog (do eqGuard .eql 86 x y (.agg #[.int .i64 a0, .int .u64 a1]) (.agg #[.int .i64 b0, .int .u64 b1]); binOp .eql 86 (.agg #[.int .i64 a0, .int .u64 a1]) (.agg #[.int .i64 b0, .int .u64 b1])) = some (.bool true) := by rw [eqeqlA86]; simp [h]
theorem eqeqlA86_f (x y : Operand) {a0 b0 a1 b1 : Int} (h : ¬ (a0 = b0 ∧ a1 = b1)) : pureOf Tryd.prog (do eqGuard .eql 86 x y (.agg #[.int .i64 a0, .int .u64 a1]) (.agg #[.int .i64 b0, .int .u64 b1]); binOp .eql 86 (.agg #[.int .i64 a0, .int .u64 a1]) (.agg #[.int .i64 b0, .int .u64 b1])) = some (.bool false) := by rw [eqeqlA86]; congr 2; revert h; by_cases e0 : a0 = b0 <;> by_cases e1 : a1 = b1 <;> simp_all
theorem eqneqA45 (x y : Operand) (a0 b0 a1 b1 : Int) : pureOf Tryd.prog (do eqGuard .neq 45 x y (.agg #[.int .i64 a0, .int .i64 a1]) (.agg #[.int .i64 b0, .int .i64 b1]); binOp .neq 45 (.agg #[.int .i64 a0, .int .i64 a1]) (.agg #[.int .i64 b0, .int .i64 b1])) = some (.bool (!(a0 == b0 && (a1 == b1 && true)))) := by
 refine pof_neqA (by kernel_rfl) ((pof_struct 9999 45 #[.int .i64 a0, .int .i64 a1] #[.int .i64 b0, .int .i64 b1] (fs := flds Tryd.prog 44) (by kernel_rfl) (by kernel_rfl)).trans ?_)
 rw [show (flds Tryd.prog 44).toList = [fld Tryd.prog 44 0, fld Tryd.prog 44 1] by kernel_rfl]
 exact ((pof_field (k := .i64) (k' := .i64) (by kernel_rfl) (by kernel_rfl) (by kernel_rfl) (by kernel_rfl)).trans (and_of ((pof_field (k := .i64) (k' := .i64) (by kernel_rfl) (by kernel_rfl) (by kernel_rfl) (by kernel_rfl)).trans (and_of pof_nofield))))
theorem eqneqA45_t (x y : Operand) {a0 b0 a1 b1 : Int} (h : a0 = b0 ∧ a1 = b1) : pureOf Tryd.prog (do eqGuard .neq 45 x y (.agg #[.int .i64 a0, .int .i64 a1]) (.agg #[.int .i64 b0, .int .i64 b1]); binOp .neq 45 (.agg #[.int .i64 a0, .int .i64 a1]) (.agg #[.int .i64 b0, .int .i64 b1])) = some (.bool false) := by rw [eqneqA45]; simp [h]
theorem eqneqA45_f (x y : Operand) {a0 b0 a1 b1 : Int} (h : ¬ (a0 = b0 ∧ a1 = b1)) : pureOf Tryd.prog (do eqGuard .neq 45 x y (.agg #[.int .i64 a0, .int .i64 a1]) (.agg #[.int .i64 b0, .int .i64 b1]); binOp .neq 45 (.agg #[.int .i64 a0, .int .i64 a1]) (.agg #[.int .i64 b0, .int .i64 b1])) = some (.bool true) := by rw [eqneqA45]; congr 2; revert h; by_cases e0 : a0 = b0 <;> by_cases e1 : a1 = b1 <;> simp_all
theorem eqneqA86 (x y : Operand) (a0 b0 a1 b1 : Int) : pureOf Tryd.prog (do eqGuard .neq 86 x y (.agg #[.int .i64 a0, .int .u64 a1]) (.agg #[.int .i64 b0, .int .u64 b1]); binOp .neq 86 (.agg #[.int .i64 a0, .int .u64 a1]) (.agg #[.int .i64 b0, .int .u64 b1])) = some (.bool (!(a0 == b0 && (a1 == b1 && true)))) := by
 refine pof_neqA (by kernel_rfl) ((pof_struct 9999 86 #[.int .i64 a0, .int .u64 a1] #[.int .i64 b0, .int .u64 b1] (fs := flds Tryd.prog 85) (by kernel_rfl) (by kernel_rfl)).trans ?_)
 rw [show (flds Tryd.prog 85).toList = [fld Tryd.prog 85 0, fld Tryd.prog 85 1] by kernel_rfl]
 exact ((pof_field (k := .i64) (k' := .i64) (by kernel_rfl) (by kernel_rfl) (by kernel_rfl) (by kernel_rfl)).trans (and_of ((pof_field (k := .u64) (k' := .u64) (by kernel_rfl) (by kernel_rfl) (by kernel_rfl) (by kernel_rfl)).trans (and_of pof_nofield))))
theorem eqneqA86_t (x y : Operand) {a0 b0 a1 b1 : Int} (h : a0 = b0 ∧ a1 = b1) : pureOf Tryd.prog (do eqGuard .neq 86 x y (.agg #[.int .i64 a0, .int .u64 a1]) (.agg #[.int .i64 b0, .int .u64 b1]); binOp .neq 86 (.agg #[.int .i64 a0, .int .u64 a1]) (.agg #[.int .i64 b0, .int .u64 b1])) = some (.bool false) := by rw [eqneqA86]; simp [h]
theorem eqneqA86_f (x y : Operand) {a0 b0 a1 b1 : Int} (h : ¬ (a0 = b0 ∧ a1 = b1)) : pureOf Tryd.prog (do eqGuard .neq 86 x y (.agg #[.int .i64 a0, .int .u64 a1]) (.agg #[.int .i64 b0, .int .u64 b1]); binOp .neq 86 (.agg #[.int .i64 a0, .int .u64 a1]) (.agg #[.int .i64 b0, .int .u64 b1])) = some (.bool true) := by rw [eqneqA86]; congr 2; revert h; by_cases e0 : a0 = b0 <;> by_cases e1 : a1 = b1 <;> simp_all
end Ev
end Go.Proofs.YtmiaonncbefmmaaDoor
end
