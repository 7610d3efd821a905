/- Texts of a claim, joined. -/
import Derived.Test.YtlkcneneagifoaaZD12
import Derived.Test.YtlkcneneagifoaaZD11
import Derived.Test.YtlkcneneagifoaaZD9
import Derived.OpenShut
set_option linter.unusedVariables false
set_option linter.unusedSimpArgs false
section
namespace Go.Proofs.Ytlkcneneagifoaa
namespace Ev
open Go Sm
set_option linter.unusedVariables false
set_option linter.unusedSimpArgs false
theorem risL_iff : ∀ {l : List E3}, risL l = true ↔ rises l
 | [] => by simp [risL, rises]
 | [a] => by simp [risL, rises]
 | a :: b :: r => by
  rw [risL_cons2, Bool.and_eq_true, risL_iff]
  constructor
  ·rintro ⟨h1, h2⟩
   refine List.pairwise_cons.2 ⟨fun y hy => ?_, h2⟩
   rcases List.mem_cons.1 hy with rfl | hy
   ·exact h1
   ·exact klt_trans h1 ((List.pairwise_cons.1 h2).1 y hy)
  ·intro h
   obtain ⟨h1, h2⟩ := List.pairwise_cons.1 h
   exact ⟨h1 b (by simp), h2⟩
theorem narrow_of {n : Int} (h : i64r n) : narrowW (ofW n) = (n, true) := by
 unfold narrowW
 have e : IntKind.i64.wrap (ofW n).2 = n := by
  unfold ofW
  simp only
  rw [wrap_u64, IntKind.wrap_i64]; unfold i64r at h; omega
 rw [e, if_pos rfl]
def w64 (l : List E3) : Prop := ∀ x ∈ l, i64r x.1 ∧ i64r x.2.1 ∧ i64r x.2.2
theorem sum_rising {r : Int} {l : List E3} (h : rises l) (hw : ∀ x ∈ l, i64r x.2.2) : sumR (RG r) l = (l, 0) := by
 have hc := canS_rising (RG r) l h
 have ha : (canS (RG r) l).all (fun p => ((RG r).na p.2).2) = true := by
  rw [hc, List.all_eq_true]
  intro p hp
  obtain ⟨e, he, rfl⟩ := List.mem_map.1 hp
  show (narrowW (ofW e.2.2)).2 = true
  rw [narrow_of (hw e he)]
 unfold sumR
 rw [if_pos ha, hc, List.map_map]
 have : l.map (toE (RG r) ∘ fun e => (key e, (RG r).o e.2.2)) = l := by
  refine (List.map_congr_left (g := id) fun e he => ?_).trans (List.map_id l)
  show (e.1, e.2.1, (narrowW (ofW e.2.2)).1) = e
  rw [narrow_of (hw e he)]
 rw [this]
theorem sum_spec {r : Int} {l : List E3} : rises (sumR (RG r) l).1 ∧ (sumR (RG r) l).1.length ≤ l.length ∧ (∀ x ∈ (sumR (RG r) l).1, i64r x.2.2 ∧ ∃ y ∈ l, y.1 = x.1 ∧ y.2.1 = x.2.1) ∧ ((sumR (RG r) l).2 = 0 ∨ sumR (RG r) l = ([], 12)) := by
 unfold sumR
 split
 ·refine ⟨?_, by rw [List.length_map]; exact can_len _ _, fun x hx => ?_, .inl rfl⟩
  ·show ((canS (RG r) l).map (toE (RG r))).Pairwise _
   rw [List.pairwise_map]
   exact (rep_can (RG r) l).1
  ·obtain ⟨p, hp, rfl⟩ := List.mem_map.1 hx
   refine ⟨?_, ?_⟩
   ·show i64r (narrowW p.2).1
    unfold narrowW
    split
    ·exact i64_wrap _
    ·unfold i64r; omega
   ·obtain ⟨e, he, hk⟩ := fm_some (((rep_can (RG r) l).2 p.1 p.2).1 hp)
    have h1 := congrArg Prod.fst hk
    have h2 := congrArg Prod.snd hk
    exact ⟨e, he, h1, h2⟩
 ·exact ⟨List.Pairwise.nil, Nat.zero_le _, by simp, .inr rfl⟩
theorem inB_of {n : Int} (h : i64r n) : Tp.inB n = true ∧ Eg.inB n = true := by
 unfold i64r at h
 simp [Tp.inB, Eg.inB, h.1, h.2]
theorem okB_of {x : Sl E3} (hs : okS 3 x) (hn : x.nn = false → x.l = []) (hl : x.l.length ≤ 65536) (hw : w64 x.l) : Tp.okB x = true ∧ Eg.okB x = true := by
 have h1 : x.l.length ≤ 90000 := by omega
 have h2 : x.sz = 3 ∨ x.l = [] := hs.symm
 have h3 : x.nn = true ∨ x.l = [] := by
  cases h : x.nn with
  | true => exact .inl rfl
  | false => exact .inr (hn h)
 constructor
 ·simp only [Tp.okB, Bool.and_eq_true, Bool.or_eq_true, decide_eq_true_eq, List.isEmpty_iff, List.all_eq_true]
  exact ⟨⟨⟨h1, fun e he => ⟨(inB_of (hw e he).1).1, (inB_of (hw e he).2.1).1, (inB_of (hw e he).2.2).1⟩⟩, h2⟩, h3⟩
 ·simp only [Eg.okB, Bool.and_eq_true, Bool.or_eq_true, decide_eq_true_eq, List.isEmpty_iff, List.all_eq_true]
  exact ⟨⟨⟨h1, fun e he => ⟨(inB_of (hw e he).1).2, (inB_of (hw e he).2.1).2, (inB_of (hw e he).2.2).2⟩⟩, h2⟩, h3⟩
theorem edges_Combine_w {r : Int} {x : Sl E3} (hr : isRing r = true) (hs : okS 3 x) (hn : x.nn = false → x.l = []) (hl : x.l.length ≤ 65536) (hw : w64 x.l) : ∃ s : Sl E3, edges_Combine r x = some (s, (sumR (RG r) x.l).2) ∧ okS 3 s ∧ (s.nn = false → s.l = []) ∧ s.l = (sumR (RG r) x.l).1 := by
 have h1 : edges_Combine r x = Eg.fn (r, x) := rfl
 rw [h1]
 unfold Eg.fn
 rw [if_pos hr, if_pos (okB_of hs hn hl hw).2]
 by_cases hr : risL x.l = true
 ·simp only [if_pos hr]
  rw [sum_rising (risL_iff.1 hr) fun e he => (hw e he).2.2]
  exact ⟨_, rfl, .inr rfl, hn, rfl⟩
 ·simp only [if_neg hr]
  have hR : Eg.RG r = RG r := rfl
  rw [hR]
  by_cases h0 : (sumR (RG r) x.l).2 = 0
  ·rw [if_pos h0, h0]
   exact ⟨_, rfl, .inr rfl, (by simp), rfl⟩
  ·rw [if_neg h0]
   have he := (sum_spec (r := r) (l := x.l)).2.2.2.resolve_left h0
   rw [he]
   exact ⟨_, rfl, .inl rfl, fun _ => rfl, rfl⟩
def cntE (l : List E3) (k : Nat) : Nat := l.countP fun x => decide (x.1 + 1 = (k : Int))
theorem cntE_le (l : List E3) (k : Nat) : cntE l k ≤ l.length := List.countP_le_length
theorem cntE_app (l : List E3) (x : E3) (k : Nat) : cntE (l ++ [x]) k = cntE l k + if x.1 + 1 = (k : Int) then 1 else 0 := by
 unfold cntE
 rw [List.countP_append]
 congr 1
 by_cases h : x.1 + 1 = (k : Int) <;> simp [h]
theorem cntR_succ : ∀ (l : List E3) (k : Nat), cntR l (k + 1) = cntR l k + cntE l (k + 1)
 | [], k => rfl
 | x :: l, k => by
  have ih := cntR_succ l k
  unfold cntR cntE at *
  simp only [List.countP_cons, ih]
  by_cases h1 : x.1 < (k : Int)
  ·have h2 : x.1 < ((k + 1 : Nat) : Int) := by omega
   have h3 : ¬ x.1 + 1 = ((k + 1 : Nat) : Int) := by omega
   simp only [decide_eq_true h1, decide_eq_true h2, decide_eq_false h3]
   simp; omega
  ·by_cases h3 : x.1 + 1 = ((k + 1 : Nat) : Int)
   ·have h2 : x.1 < ((k + 1 : Nat) : Int) := by omega
    simp only [decide_eq_false h1, decide_eq_true h2, decide_eq_true h3]
    simp; omega
   ·have h2 : ¬ x.1 < ((k + 1 : Nat) : Int) := by omega
    simp only [decide_eq_false h1, decide_eq_false h2, decide_eq_false h3]
    simp
theorem csr_build_w {n c : Int} (hn : 0 ≤ n ∧ n ≤ 4096) {s : Sl E3} (hs : okS 3 s) (hl : s.l.length ≤ 65536) (hr : ∀ x ∈ s.l, 0 ≤ x.1 ∧ x.1 < n) : csr_build n c s = some (matV n c s.l) := by
 obtain ⟨k, rfl⟩ := Int.eq_ofNat_of_zero_le hn.1
 rw [csr_build_eq]
 unfold matV
 rw [wrap64 (by omega) (by omega), capOk_self, len_one hn]
 have tk : ((k : Int) + 1).toNat = k + 1 := by omega
 simp only [Option.bind_some, tk, Int.toNat_natCast]
 rw [tabN_zero]
 have q1 : loopO (csr_build_b1 s) (0, (k : Int), c, tabN k (fun _ => 0), [], []) = some (.inl ((k : Int), c, tabN k (fun i => ((cntE s.l i : Nat) : Int)), s.l.map (·.2.1), s.l.map (·.2.2))) := by
  refine loop_stop s.l.length (fun j => ((j : Int), (k : Int), c, tabN k (fun i => ((cntE (s.l.take j) i : Nat) : Int)), (s.l.take j).map (·.2.1), (s.l.take j).map (·.2.2))) rfl (fun j hj => ?_) ?_
  ·have ej := at_get hs hj
   have hx := hr _ (List.getElem_mem hj)
   obtain ⟨row, hrow⟩ := Int.eq_ofNat_of_zero_le hx.1
   have hlen : (s.l.take j).length ≤ 65536 := by simp; omega
   have ap1 : app ((s.l.take j).map (·.2.1)) [s.l[j].2.1] = some ((s.l.take j).map (·.2.1) ++ [s.l[j].2.1]) := app_ok (by simp at hlen ⊢; unfold bound; omega)
   have ap2 : app ((s.l.take j).map (·.2.2)) [s.l[j].2.2] = some ((s.l.take j).map (·.2.2) ++ [s.l[j].2.2]) := app_ok (by simp at hlen ⊢; unfold bound; omega)
   have hw : IntKind.i64.wrap (s.l[j].1 + 1) = ((row + 1 : Nat) : Int) := by rw [wrap64 (by omega) (by omega)]; omega
   have hat : atL (tabN k fun i => ((cntE (s.l.take j) i : Nat) : Int)) ((row + 1 : Nat) : Int) = some ((cntE (s.l.take j) (row + 1) : Nat) : Int) := atL_some' (tabN_get _ (by omega))
   have hc := cntE_le (s.l.take j) (row + 1)
   have hw2 : IntKind.i64.wrap (((cntE (s.l.take j) (row + 1) : Nat) : Int) + 1) = ((cntE (s.l.take j) (row + 1) : Nat) : Int) + 1 := wrap64 (by omega) (by omega)
   simp only [csr_build_b1, ej, Option.bind_some, ap1, ap2, hw, hat, hw2, Int.toNat_natCast, w_succ hj (by omega)]
   rw [if_pos (by omega), tabN_set _ _ (by omega), List.take_succ_eq_append_getElem hj, List.map_append, List.map_append]
   simp only [List.map_cons, List.map_nil]
   refine congrArg (fun z => some (Sum.inl ((((j + 1 : Nat) : Int), (k : Int), c, z)))) ?_
   rw [Prod.mk.injEq]
   refine ⟨tabN_congr fun i hi => ?_, rfl⟩
   rw [cntE_app, hrow]
   by_cases h : i = row + 1
   ·rw [if_pos h, if_pos (by omega), h]; omega
   ·rw [if_neg h, if_neg (by omega)]; omega
  ·simp only [csr_build_b1]
   rw [if_neg (by omega), List.take_length]
 have q2 : loopO csr_build_b2 (1, tabN k (fun i => ((cntE s.l i : Nat) : Int))) = some (.inl (tabN k fun i => ((cntR s.l i : Nat) : Int))) := by
  have h0 : cntR s.l 0 = cntE s.l 0 := by
   unfold cntR cntE
   refine List.countP_congr fun x hx => ?_
   have := hr x hx
   simp; omega
  refine loop_stop k (fun j => (((j + 1 : Nat) : Int), tabN k (fun i => if i ≤ j then ((cntR s.l i : Nat) : Int) else ((cntE s.l i : Nat) : Int)))) ?_ (fun j hj => ?_) ?_
  ·rw [Prod.mk.injEq]
   refine ⟨rfl, tabN_congr fun i hi => ?_⟩
   by_cases h : i ≤ 0
   ·rw [if_pos h, show i = 0 by omega, h0]
   ·rw [if_neg h]
  ·have e1 : atL (tabN k (fun i => if i ≤ j then ((cntR s.l i : Nat) : Int) else ((cntE s.l i : Nat) : Int))) ((j + 1 : Nat) : Int) = some ((cntE s.l (j + 1) : Nat) : Int) := atL_some' (by rw [tabN_get _ (by omega), if_neg (by omega)])
   have e2 : atL (tabN k (fun i => if i ≤ j then ((cntR s.l i : Nat) : Int) else ((cntE s.l i : Nat) : Int))) (j : Int) = some ((cntR s.l j : Nat) : Int) := atL_some' (by rw [tabN_get _ (by omega), if_pos (by omega)])
   have w1 : IntKind.i64.wrap (((j + 1 : Nat) : Int) - 1) = (j : Int) := by rw [wrap64 (by omega) (by omega)]; omega
   have w2 : IntKind.i64.wrap (((j + 1 : Nat) : Int) + 1) = ((j + 1 + 1 : Nat) : Int) := by rw [wrap64 (by omega) (by omega)]; omega
   have c1 := cntE_le s.l (j + 1)
   have c2 := cntR_le s.l j
   have w3 : IntKind.i64.wrap (((cntE s.l (j + 1) : Nat) : Int) + ((cntR s.l j : Nat) : Int)) = ((cntE s.l (j + 1) : Nat) : Int) + ((cntR s.l j : Nat) : Int) := wrap64 (by omega) (by omega)
   simp only [csr_build_b2, e1, e2, w1, w2, w3, Option.bind_some, Int.toNat_natCast, tabN_len]
   rw [if_pos (by omega), tabN_set _ _ (by omega)]
   refine congrArg (fun z => some (Sum.inl ((((j + 1 + 1 : Nat) : Int), z)))) (tabN_congr fun i hi => ?_)
   have := cntR_succ s.l j
   by_cases h : i = j + 1
   ·rw [if_pos h, if_pos (by omega), h, this]; omega
   ·rw [if_neg h]
    by_cases h2 : i ≤ j
    ·rw [if_pos h2, if_pos (by omega)]
    ·rw [if_neg h2, if_neg (by omega)]
  ·simp only [csr_build_b2, tabN_len]
   rw [if_neg (by omega)]
   refine congrArg (fun z => some (Sum.inr (Sum.inl z))) (tabN_congr fun i hi => ?_)
   rw [if_pos hi]
 rw [q1]
 simp only [Option.bind_some, Sum.elim_inl]
 rw [q2]; rfl
def inM (n c : Int) (x : E3) : Bool := decide (0 ≤ x.1 ∧ x.1 < n ∧ 0 ≤ x.2.1 ∧ x.2.1 < c)
theorem all_f {α : Type} {p : α → Bool} {l : List α} {j : Nat} (hj : j < l.length) (h : p l[j] = false) : l.all p = false := by
 rw [Bool.eq_false_iff]
 intro ha
 rw [List.all_eq_true.1 ha _ (List.getElem_mem hj)] at h
 cases h
theorem rows_in {n c : Int} {l : List E3} (h : l.all (inM n c) = true) {r : Int} : ∀ x ∈ (sumR (RG r) l).1, (0 ≤ x.1 ∧ x.1 < n) ∧ 0 ≤ x.2.1 ∧ x.2.1 < c := by
 intro x hx
 obtain ⟨_, y, hy, e1, e2⟩ := (sum_spec (r := r) (l := l)).2.2.1 x hx
 have := List.all_eq_true.1 h y hy
 unfold inM at this
 simp only [decide_eq_true_eq] at this
 omega
end Ev
end Go.Proofs.Ytlkcneneagifoaa
end
section
namespace Go.Proofs.Ytlkcneneagifoaa
namespace Ev
namespace K
open Go Go.RowKit
set_option linter.unusedVariables false
set_option linter.unusedSimpArgs false
def W : (e : Ty) → e.val → Prop
 | .I k, x => inK k x
 | .B, _ => True
 | .S e, x => SlW e.size (fun y => W e y) x
 | .U, _ => True
 | .C a b, x => W a x.1 ∧ W b x.2
def Op (P : Program) (t : TypeId) (e : Ty) : Prop := ∀ ts, Typ P t ts → ∃ x : e.val, ts = e.row x ∧ W e x
def Ops (P : Program) (tl : List TypeId) (e : Ty) : Prop := ∀ tss : List (List T), tss.length = tl.length → (∀ (i : Nat) t l, tl[i]? = some t → tss[i]? = some l → Typ P t l) → ∃ x : e.val, tss.flatten = e.row x ∧ W e x
section
variable {P : Program} {t : TypeId} {tl : List TypeId} {e a b : Ty}
theorem op_int {k : IntKind} (h : P.underlying t = some (.int k)) : Op P t (.I k) := fun ts ht => typ_int h ht
theorem op_slice {t' : TypeId} (h : P.underlying t = some (.slice t')) (hc : P.cellsOf t' = e.size) (ho : Op P t' e) : Op P t (.S e) := fun ts ht => typ_slice (r := e.row) (Q := fun y => W e y) h hc ho ht
theorem ops_one (h : Op P t e) : Ops P [t] e := fun tss hl ht => by
 obtain ⟨l, rfl⟩ := List.length_eq_one_iff.1 hl
 obtain ⟨x, h1, h2⟩ := h l (ht 0 t l rfl rfl)
 exact ⟨x, by simp [h1], h2⟩
theorem ops_cons (h : Op P t a) (h' : Ops P tl b) : Ops P (t :: tl) (.C a b) := fun tss hl ht => by
 match tss, hl with
 | l :: tss, hl =>
  obtain ⟨x, h1, h2⟩ := h l (ht 0 t l rfl rfl)
  obtain ⟨y, h3, h4⟩ := h' tss (by simpa using hl) fun i t' l' a b => ht (i + 1) t' l' a b
  exact ⟨(x, y), by rw [List.flatten_cons, h1, h3]; rfl, h2, h4⟩
theorem op_struct {fs : Array Field} (h : P.underlying t = some (.struct fs)) (hf : fs.toList.map (·.type) = tl) (ho : Ops P tl e) : Op P t e := fun ts ht => by
 obtain ⟨tss, rfl, h1, h2⟩ := typ_struct h ht
 subst hf
 refine ho tss (by simpa using h1) fun i t' l hi hl => ?_
 rw [List.getElem?_map, Option.map_eq_some_iff] at hi
 obtain ⟨f, hf, rfl⟩ := hi
 exact h2 i f l hf hl
theorem open_agg {ts : List TypeId} {tds : List TD} {d : TypeDesc} (hu : P.underlying t = some d) (hd : isAggD d = true) (ho : Op P t e) (h : TypDs P (t :: ts) tds) : ∃ (x : e.val) (r : List TD), tds = tdOf (true, e) x :: r ∧ W e x ∧ TypDs P ts r := by
 obtain ⟨y, r, rfl, h1, h2⟩ := typd_agg hu hd h
 obtain ⟨x, h3, h4⟩ := ho _ h1
 exact ⟨x, r, by rw [h3]; rfl, h4, h2⟩
end
theorem true_of {E : Env} {en : Entry} (ok : EntryOk E en) {a : vals en.ins} {tds : List TD} (ht : tds = tdsOf en.ins a) (ho : en.out = .data true [(false, .B)]) (h : en.f a = some (cast (by rw [ho]) true)) : ∃ m n kind, (callers E m n).1 en.k tds = some (kind, [.one (.v (.bool true))]) := by
 have h1 := ok 0 a _ h
 subst ht
 obtain ⟨k, ins, out, f, d⟩ := en
 dsimp only at ho
 subst ho
 exact law_of h1
end K
end Ev
end Go.Proofs.Ytlkcneneagifoaa
end
section
namespace Go.Proofs.Ytlkcneneagifoaa
namespace Ev
open Go Sm
set_option linter.unusedVariables false
set_option linter.unusedSimpArgs false
theorem same_slice {α : Type} [DecidableEq α] {x y : Sl α} (hl : x.l.length ≤ 9223372036854775806) {w : Nat} (hx : okS w x) (hy : okS w y) {b : Int → Option (Int ⊕ PUnit ⊕ Bool ⊕ Empty)}
  (hb : ∀ a, b a = if a < (x.l.length : Int) then (atS w x a).bind fun u => (atS w y a).bind fun v => if u ≠ v then some (.inr (.inr (.inl false))) else some (.inl (IntKind.i64.wrap (a + 1))) else some (.inr (.inl ()))) :
  (if (x.l.length : Int) ≠ (y.l.length : Int) then some false else (loopO b 0).bind fun (y : PUnit ⊕ Bool ⊕ Empty) => Sum.elim (fun _ => some true) (fun v => Sum.elim (fun v => some v) (fun v => nE v) v) y) = some (decide (x.l = y.l)) := by
 by_cases h : x.l.length = y.l.length
 ·rw [if_neg (by omega)]
  rw [same_loop h (b := b) (fun j hj => by
   rw [hb, if_pos (by omega), atS_some' hx (List.getElem?_eq_getElem hj), atS_some' hy (List.getElem?_eq_getElem (by omega))]
   simp only [Option.bind_some]
   by_cases he : x.l[j] = y.l[j]
   ·rw [if_neg (by simp [he]), if_pos he, w_succ hj (by omega)]
   ·rw [if_pos he, if_neg he]) (fun j hj => by rw [hb, if_neg (by omega)])]
  by_cases he : x.l = y.l
  ·simp [he]
  ·simp [he]
 ·rw [if_pos (by omega), decide_eq_false]
  exact fun he => h (by rw [he])
structure Mok (m : Mx) : Prop where
 s : okS 1 m.2.2.1
 c : okS 1 m.2.2.2.1
 v : okS 1 m.2.2.2.2
 ls : m.2.2.1.l.length ≤ 9223372036854775806
 lc : m.2.2.2.1.l.length ≤ 9223372036854775806
 lv : m.2.2.2.2.l.length ≤ 9223372036854775806
theorem w64_of {x : Sl E3} (h : K.W (.S (.C (.I .i64) (.C (.I .i64) (.I .i64)))) x) : okS 3 x ∧ (x.nn = false → x.l = []) ∧ w64 x.l := ⟨.inr h.1, h.2.1, fun y hy => ⟨i64r_of (h.2.2.2 y hy).1, i64r_of (h.2.2.2 y hy).2.1, i64r_of (h.2.2.2 y hy).2.2⟩⟩
end Ev
end Go.Proofs.Ytlkcneneagifoaa
end
section
namespace Go.Proofs.Ytlkcneneagifoaa
namespace Ev
open Go Sm
set_option linter.unusedVariables false
set_option linter.unusedSimpArgs false
structure Is (m : Mx) (n c : Int) (l : List E3) : Prop where
 hn : 0 ≤ n ∧ n ≤ 4096
 hc : 0 ≤ c ∧ c ≤ 4096
 len : l.length ≤ 65536
 r : rises l
 p : ∀ x ∈ l, (0 ≤ x.1 ∧ x.1 < n) ∧ 0 ≤ x.2.1 ∧ x.2.1 < c
 v : ∀ x ∈ l, i64r x.2.2
 e1 : m.1 = n
 e2 : m.2.1 = c
 e3 : m.2.2.1.l = tabN n.toNat fun k => ((cntR l k : Nat) : Int)
 e4 : m.2.2.2.1.l = l.map (·.2.1)
 e5 : m.2.2.2.2.l = l.map (·.2.2)
 o3 : okS 1 m.2.2.1
 o4 : okS 1 m.2.2.2.1
 o5 : okS 1 m.2.2.2.2
section
variable {m : Mx} {n c : Int} {l : List E3}
theorem is_mat (hn : 0 ≤ n ∧ n ≤ 4096) (hc : 0 ≤ c ∧ c ≤ 4096) (hl : l.length ≤ 65536) (h : rises l) (hp : ∀ x ∈ l, (0 ≤ x.1 ∧ x.1 < n) ∧ 0 ≤ x.2.1 ∧ x.2.1 < c) (hv : ∀ x ∈ l, i64r x.2.2) : Is (matV n c l) n c l :=
 ⟨hn, hc, hl, h, hp, hv, rfl, rfl, rfl, mo_l _ _, mo_l _ _, .inr rfl, ok_mo _, ok_mo _⟩
theorem Is.ok (h : Is m n c l) : OkM m := by
 refine ⟨h.o3, h.o4, h.o5, fun y hy => ?_, ?_, ?_, ?_⟩
 ·rw [h.e5] at hy
  obtain ⟨x, hx, rfl⟩ := List.mem_map.1 hy
  exact h.v x hx
 ·rw [h.e3, tabN_len]; have := h.hn; omega
 ·rw [h.e4, List.length_map]; have := h.len; omega
 ·rw [h.e5, List.length_map]; have := h.len; omega
theorem Is.mok (h : Is m n c l) : Mok m := by
 refine ⟨h.o3, h.o4, h.o5, ?_, ?_, ?_⟩
 ·rw [h.e3, tabN_len]; have := h.hn; omega
 ·rw [h.e4, List.length_map]; have := h.len; omega
 ·rw [h.e5, List.length_map]; have := h.len; omega
theorem Is.right (h : Is m n c l) : rightM m = true := by
 have := matV_right h.hn h.hc h.len h.r h.p
 unfold rightM at this ⊢
 simp only [Bool.and_eq_true, decide_eq_true_eq] at this ⊢
 rw [h.e1, h.e2, h.e3, h.e4, h.e5]
 simp only [matV, mo_l] at this
 exact this
theorem csr_Right_is (h : Is m n c l) : csr_Right m = some true := by rw [csr_Right_w h.ok, h.right]
theorem csr_sure_is (h : Is m n c l) : csr_sure m = some m := by rw [csr_sure_eq, csr_Right_is h]; rfl
theorem csr_Count_is (h : Is m n c l) : csr_Count m = some (l.length : Int) := by
 rw [csr_Count_eq, csr_sure_is h]
 simp only [Option.bind_some]
 rw [h.e5, List.length_map]
theorem slices_Equal_ints {x y : Sl Int} (hl : x.l.length ≤ 9223372036854775806) (hx : okS 1 x) (hy : okS 1 y) : slices_Equal_int_int x y = some (decide (x.l = y.l)) := by
 rw [slices_Equal_int_int_eq]
 exact same_slice hl hx hy fun a => by unfold slices_Equal_int_int_b1; rfl
theorem slices_Equal_vals {x y : Sl Int} (hl : x.l.length ≤ 9223372036854775806) (hx : okS 1 x) (hy : okS 1 y) : slices_Equal_int64_int64 x y = some (decide (x.l = y.l)) := by
 rw [slices_Equal_int64_int64_eq]
 exact same_slice hl hx hy fun a => by unfold slices_Equal_int64_int64_b1; rfl
theorem csr_Same_is {m' : Mx} (h : Is m n c l) (h' : Is m' n c l) : csr_Same m m' = some true := by
 have a := h.mok
 have b := h'.mok
 rw [csr_Same_eq, csr_sure_is h, csr_sure_is h']
 simp only [Option.bind_some]
 rw [slices_Equal_ints a.ls a.s b.s, slices_Equal_ints a.lc a.c b.c, slices_Equal_vals a.lv a.v b.v, h.e1, h'.e1, h.e2, h'.e2, h.e3, h'.e3, h.e4, h'.e4, h.e5, h'.e5]
 simp
def rowI (l : List E3) (i : Int) : List E3 := l.filter fun x => decide (x.1 = i)
theorem rowI_nat (l : List E3) (i : Nat) : rowI l (i : Int) = rowE l i := by
 unfold rowI rowE
 rw [List.filter_filter]
 refine List.filter_congr fun x _ => ?_
 rw [Bool.eq_iff_iff]
 simp
 omega
theorem rowI_none {i : Int} (h : ∀ x ∈ l, x.1 ≠ i) : rowI l i = [] := by
 unfold rowI
 rw [List.filter_eq_nil_iff]
 exact fun x hx hd => h x hx (by simpa using hd)
theorem cutS_map {s : Sl Int} (hs : okS 1 s) {f : E3 → Int} (e : s.l = l.map f) {a b : Nat} (hab : a ≤ b) (hb : b ≤ l.length) : ∃ t : Sl Int, cutS 1 s (a : Int) (b : Int) = some t ∧ t.l = ((l.drop a).take (b - a)).map f ∧ okS 1 t := by
 have h0 : s.sz = 1 ∨ (a : Int) = 0 := by
  rcases hs with h | h
  ·rw [e, List.map_eq_nil_iff] at h; subst h
   right; simp at hb; omega
  ·exact .inl h
 refine ⟨⟨s.nn, s.sz, (s.l.drop a).take (b - a)⟩, ?_, ?_, ?_⟩
 ·unfold cutS
  rw [if_pos ⟨by omega, by omega, by rw [e, List.length_map]; omega, h0⟩]
  simp
 ·show (s.l.drop a).take (b - a) = _
  rw [e, ← List.map_drop, ← List.map_take]
 ·rcases hs with h | h
  ·exact .inl (by show (s.l.drop a).take (b - a) = []; rw [h]; simp)
  ·exact .inr h
theorem csr_row_is (h : Is m n c l) (i : Int) : ∃ s t : Sl Int, csr_row m i = some (s, t) ∧ s.l = (rowI l i).map (·.2.1) ∧ t.l = (rowI l i).map (·.2.2) ∧ okS 1 s ∧ okS 1 t := by
 rw [csr_row_eq]
 by_cases h0 : i < 0
 ·have hr : rowI l i = [] := rowI_none fun x hx he => by have := (h.p x hx).1; omega
  rw [if_pos h0, hr]
  exact ⟨nilS, nilS, rfl, rfl, rfl, ok_nil, ok_nil⟩
 ·by_cases h1 : i ≥ n
  ·have hr : rowI l i = [] := rowI_none fun x hx he => by have := (h.p x hx).1; omega
   rw [if_neg h0, h.e1, if_pos h1, hr]
   exact ⟨nilS, nilS, rfl, rfl, rfl, ok_nil, ok_nil⟩
  ·obtain ⟨k, rfl⟩ := Int.eq_ofNat_of_zero_le (by omega : 0 ≤ i)
   have hk : k < n.toNat := by omega
   rw [if_neg h0, h.e1, if_neg h1]
   have w1 : IntKind.i64.wrap ((k : Int) + 1) = ((k + 1 : Nat) : Int) := w_succ (n := n.toNat) hk (by have := h.hn; omega)
   have a1 := atS_some' h.o3 (show m.2.2.1.l[k]? = some _ by rw [h.e3]; exact tabN_get _ (by omega))
   have a2 := atS_some' h.o3 (show m.2.2.1.l[k + 1]? = some _ by rw [h.e3]; exact tabN_get _ (by omega))
   obtain ⟨c1, c2⟩ := row_cut h.r k
   have hle := cntR_le l (k + 1)
   obtain ⟨s, s1, s2, s3⟩ := cutS_map h.o4 h.e4 c1 hle
   obtain ⟨t, t1, t2, t3⟩ := cutS_map h.o5 h.e5 c1 hle
   rw [a1, w1, a2]
   simp only [Option.bind_some]
   rw [if_pos ⟨Int.le_refl _, by rw [h.e4, List.length_map]; omega⟩, s1]
   simp only [Option.bind_some]
   rw [if_pos ⟨Int.le_refl _, by rw [h.e5, List.length_map]; omega⟩, t1]
   refine ⟨s, t, rfl, ?_, ?_, s3, t3⟩
   ·rw [s2, c2, rowI_nat]
   ·rw [t2, c2, rowI_nat]
def belR (l : List E3) (k : Int) : List E3 := l.filter fun x => decide (x.1 < k)
theorem belR_succ (h : rises l) (k : Nat) : belR l ((k + 1 : Nat) : Int) = belR l (k : Int) ++ rowI l (k : Int) := by
 have e1 := (take_lt (rises_le h) k).1
 have e2 := (take_lt (rises_le h) (k + 1)).1
 obtain ⟨c1, c2⟩ := row_cut h k
 unfold belR
 rw [← e1, ← e2, rowI_nat, ← c2]
 rw [← List.take_add, show cntR l k + (cntR l (k + 1) - cntR l k) = cntR l (k + 1) by omega]
theorem belR_all {n : Int} (h : ∀ x ∈ l, x.1 < n) : belR l n = l := by
 unfold belR
 rw [List.filter_eq_self]
 exact fun x hx => by simpa using h x hx
theorem belR_none {n : Int} (h : ∀ x ∈ l, n ≤ x.1) : belR l n = [] := by
 unfold belR
 rw [List.filter_eq_nil_iff]
 exact fun x hx hd => by
  have := h x hx; have : x.1 < n := by simpa using hd
  omega
theorem rowI_len (l : List E3) (k : Int) : (rowI l k).length ≤ l.length := List.length_filter_le _ _
theorem rowI_fst {x : E3} {k : Int} (h : x ∈ rowI l k) : x ∈ l ∧ x.1 = k := by
 unfold rowI at h
 rw [List.mem_filter] at h
 exact ⟨h.1, by simpa using h.2⟩
theorem rises_inj (h : rises l) {x y : E3} (hx : x ∈ l) (hy : y ∈ l) (h1 : x.1 = y.1) (h2 : x.2.1 = y.2.1) : x = y := by
 obtain ⟨a, ha, rfl⟩ := List.mem_iff_getElem.1 hx
 obtain ⟨b, hb, rfl⟩ := List.mem_iff_getElem.1 hy
 have hp := List.pairwise_iff_getElem.1 h
 by_cases hab : a = b
 ·subst hab; rfl
 ·rcases Nat.lt_or_gt_of_ne hab with hl | hl
  ·have := bel_iff.1 (hp a b ha hb hl); omega
  ·have := bel_iff.1 (hp b a hb ha hl); omega
theorem row_asc (h : rises l) (i : Int) : ((rowI l i).map (·.2.1)).Pairwise (· < ·) := by
 rw [List.pairwise_map]
 have h1 : (rowI l i).Pairwise fun a b => bel a b = true := h.sublist List.filter_sublist
 refine h1.imp_of_mem fun {a b} ha hb hab => ?_
 have := (rowI_fst ha).2
 have := (rowI_fst hb).2
 rw [bel_iff] at hab
 omega
end
end Ev
end Go.Proofs.Ytlkcneneagifoaa
end
section
namespace Go.Proofs.Ytlkcneneagifoaa
namespace Ev
open Go Sm
set_option linter.unusedVariables false
set_option linter.unusedSimpArgs false
end Ev
end Go.Proofs.Ytlkcneneagifoaa
end
section
namespace Go.Proofs.Ytlkcneneagifoaa
namespace Ev
open Go Sm
set_option linter.unusedVariables false
set_option linter.unusedSimpArgs false
def flip3 (x : E3) : E3 := (x.2.1, x.1, x.2.2)
theorem flip_flip (x : E3) : flip3 (flip3 x) = x := rfl
theorem flip_inj {x y : E3} (h : flip3 x = flip3 y) : x = y := by rw [← flip_flip x, h, flip_flip]
theorem mem_flip {l : List E3} {x : E3} : x ∈ l.map flip3 ↔ flip3 x ∈ l := by
 constructor
 ·intro h
  obtain ⟨y, hy, rfl⟩ := List.mem_map.1 h
  exact hy
 ·exact fun h => List.mem_map.2 ⟨_, h, rfl⟩
def leE (a b : E3) : Bool := !bel b a
theorem leE_iff {a b : E3} : leE a b = true ↔ ¬ (b.1 < a.1 ∨ b.1 = a.1 ∧ b.2.1 < a.2.1) := by
 unfold leE
 rw [← bel_iff]
 cases bel b a <;> simp
def turnL (l : List E3) : List E3 := (l.map flip3).mergeSort leE
theorem turn_perm (l : List E3) : (turnL l).Perm (l.map flip3) := List.mergeSort_perm _ _
theorem turn_mem {l : List E3} {x : E3} : x ∈ turnL l ↔ flip3 x ∈ l := by rw [(turn_perm l).mem_iff, mem_flip]
theorem turn_len (l : List E3) : (turnL l).length = l.length := by rw [(turn_perm l).length_eq, List.length_map]
theorem rises_nodup {l : List E3} (h : rises l) : l.Nodup := h.imp fun {a b} hab he => by
 subst he
 have := bel_iff.1 hab
 omega
theorem turn_rises {l : List E3} (h : rises l) : rises (turnL l) := by
 have h1 : (turnL l).Pairwise fun a b => leE a b = true := List.pairwise_mergeSort (fun a b c hab hbc => by rw [leE_iff] at *; omega) (fun a b => by
  rw [Bool.or_eq_true, leE_iff, leE_iff]; omega) _
 have h2 : (turnL l).Nodup := (turn_perm l).nodup_iff.2 (List.pairwise_map.2 ((rises_nodup h).imp fun {a b} hab he => hab (flip_inj he)))
 rw [rises, List.pairwise_iff_getElem]
 intro i j hi hj hij
 have p1 := List.pairwise_iff_getElem.1 h1 i j hi hj hij
 have p2 := List.pairwise_iff_getElem.1 h2 i j hi hj hij
 rw [leE_iff] at p1
 rw [bel_iff]
 by_cases hk : (turnL l)[i].1 = (turnL l)[j].1 ∧ (turnL l)[i].2.1 = (turnL l)[j].2.1
 ·have m1 := turn_mem.1 (List.getElem_mem hi)
  have m2 := turn_mem.1 (List.getElem_mem hj)
  exact absurd (flip_inj (rises_inj h m1 m2 hk.2 hk.1)) p2
 ·omega
theorem rises_ext {l l' : List E3} (h : rises l) (h' : rises l') (hm : ∀ x, x ∈ l ↔ x ∈ l') : l = l' :=
 List.Perm.eq_of_pairwise (le := fun a b => bel a b = true) (fun a b _ _ h1 h2 => by rw [bel_iff] at h1 h2; omega) h h' ((List.perm_ext_iff_of_nodup (rises_nodup h) (rises_nodup h')).2 hm)
theorem turn_turn {l : List E3} (h : rises l) : turnL (turnL l) = l := rises_ext (turn_rises (turn_rises h)) h fun x => by rw [turn_mem, turn_mem, flip_flip]
theorem idx_rising {T : List E3} (h : rises T) {p : Nat} (hp : p < T.length) : T.countP (fun y => bel y T[p]) = p := by
 have hpw := List.pairwise_iff_getElem.1 h
 have e : T = T.take p ++ T[p] :: T.drop (p + 1) := by rw [List.getElem_cons_drop, List.take_append_drop]
 have c : ∀ x, T.countP (fun y => bel y x) = (T.take p).countP (fun y => bel y x) + (T[p] :: T.drop (p + 1)).countP (fun y => bel y x) := fun x => by rw [← List.countP_append, ← e]
 rw [c, List.countP_eq_length.2, List.countP_eq_zero.2]
 ·rw [List.length_take]; omega
 ·intro a ha
  rcases List.mem_cons.1 ha with rfl | ha
  ·rw [bel_iff]; omega
  ·obtain ⟨j, hj, rfl⟩ := List.mem_iff_getElem.1 ha
   rw [List.getElem_drop]
   rw [List.length_drop] at hj
   have := bel_iff.1 (hpw p (p + 1 + j) hp (by omega) (by omega))
   rw [bel_iff]; omega
 ·intro a ha
  obtain ⟨j, hj, rfl⟩ := List.mem_take_iff_getElem.1 ha
  exact hpw j p (by omega) hp (by omega)
def cntK (u : List E3) (k : Nat) : Nat := u.countP fun x => decide (x.2.1 = (k : Int))
theorem cntK_le (u : List E3) (k : Nat) : cntK u k ≤ u.length := List.countP_le_length
theorem cntK_app (u : List E3) (e : E3) (k : Nat) : cntK (u ++ [e]) k = cntK u k + if e.2.1 = (k : Int) then 1 else 0 := by
 unfold cntK
 rw [List.countP_append]
 congr 1
 by_cases h : e.2.1 = (k : Int) <;> simp [h]
theorem cnt_split {a : Int} : ∀ u : List E3, u.countP (fun y => decide (y.2.1 < a ∨ y.2.1 = a)) = u.countP (fun y => decide (y.2.1 < a)) + u.countP (fun y => decide (y.2.1 = a))
 | [] => rfl
 | x :: u => by
  have ih := cnt_split (a := a) u
  simp only [List.countP_cons, ih]
  by_cases h1 : x.2.1 < a
  ·have h2 : ¬ x.2.1 = a := by omega
   simp [h1, h2]; omega
  ·by_cases h2 : x.2.1 = a
   ·simp [h2]; omega
   ·simp [h1, h2]
theorem turn_place {l u w : List E3} {e : E3} (hl : l = u ++ e :: w) (h : rises l) {k : Nat} (hk : e.2.1 = (k : Int)) : (turnL l)[cntR (l.map flip3) k + cntK u k]? = some (flip3 e) := by
 have he : e ∈ l := by rw [hl]; simp
 obtain ⟨p, hp, hpe⟩ := List.mem_iff_getElem.1 (turn_mem.2 (show flip3 (flip3 e) ∈ l from he))
 have hi := idx_rising (turn_rises h) hp
 rw [hpe, (turn_perm l).countP_eq, List.countP_map] at hi
 have hc : cntR (l.map flip3) k = l.countP fun y => decide (y.2.1 < (k : Int)) := by unfold cntR; rw [List.countP_map]; rfl
 rw [hl, rises, List.pairwise_append] at h
 obtain ⟨h1, h2, h3⟩ := h
 obtain ⟨h4, h5⟩ := List.pairwise_cons.1 h2
 have c1 : u.countP ((fun y => bel y (flip3 e)) ∘ flip3) = u.countP (fun y => decide (y.2.1 < (k : Int) ∨ y.2.1 = (k : Int))) := List.countP_congr fun y hy => by
  have := bel_iff.1 (h3 y hy e List.mem_cons_self)
  show bel (flip3 y) (flip3 e) = true ↔ _
  rw [bel_iff, decide_eq_true_eq]
  show y.2.1 < e.2.1 ∨ y.2.1 = e.2.1 ∧ y.1 < e.1 ↔ _
  rw [hk]
  omega
 have c2 : (e :: w).countP ((fun y => bel y (flip3 e)) ∘ flip3) = (e :: w).countP (fun y => decide (y.2.1 < (k : Int))) := List.countP_congr fun y hy => by
  show bel (flip3 y) (flip3 e) = true ↔ _
  rw [bel_iff, decide_eq_true_eq]
  show y.2.1 < e.2.1 ∨ y.2.1 = e.2.1 ∧ y.1 < e.1 ↔ _
  rw [hk]
  rcases List.mem_cons.1 hy with rfl | hy
  ·omega
  ·have := bel_iff.1 (h4 y hy)
   omega
 have : cntR (l.map flip3) k + cntK u k = p := by
  rw [← hi, hc, hl, List.countP_append, List.countP_append, c1, c2, cnt_split]
  unfold cntK
  omega
 rw [this, List.getElem?_eq_getElem hp, hpe]
theorem turn_set {l u w : List E3} {e : E3} (hl : l = u ++ e :: w) (h : rises l) {k : Nat} (hk : e.2.1 = (k : Int)) (g : E3 → Int) : ((turnL l).map fun x => if flip3 x ∈ u then g x else 0).set (cntR (l.map flip3) k + cntK u k) (g (flip3 e)) = (turnL l).map fun x => if flip3 x ∈ u ++ [e] then g x else 0 := by
 have hp := turn_place hl h hk
 have hnd := rises_nodup (turn_rises h)
 refine List.ext_getElem? fun j => ?_
 rw [List.getElem?_set]
 by_cases hj : cntR (l.map flip3) k + cntK u k = j
 ·rw [if_pos hj]
  rw [hj] at hp
  have hlt := (List.getElem?_eq_some_iff.1 hp).1
  rw [if_pos (by rw [hj, List.length_map]; exact hlt), List.getElem?_map, hp]
  simp [flip_flip]
 ·rw [if_neg hj, List.getElem?_map, List.getElem?_map]
  cases hx : (turnL l)[j]? with
  | none => rfl
  | some x =>
   have hne : flip3 x ≠ e := by
    intro he
    obtain ⟨a1, a2⟩ := List.getElem?_eq_some_iff.1 hx
    obtain ⟨b1, b2⟩ := List.getElem?_eq_some_iff.1 hp
    refine hj ?_
    have hxe : x = flip3 e := by rw [← he, flip_flip]
    have hpw := List.pairwise_iff_getElem.1 hnd
    rcases Nat.lt_trichotomy (cntR (l.map flip3) k + cntK u k) j with hlt | heq | hlt
    ·exact absurd (b2.trans (hxe.symm.trans a2.symm)) (hpw _ _ b1 a1 hlt)
    ·exact heq
    ·exact absurd (a2.trans (hxe.trans b2.symm)) (hpw _ _ a1 b1 hlt)
   simp [hne]
theorem prefix_loop {k : Nat} (hk : k ≤ 4096) {l : List E3} (hl : l.length ≤ 65536) (hr : ∀ x ∈ l, 0 ≤ x.1) : loopO csr_Turn_b2 (1, tabN k (fun i => ((cntE l i : Nat) : Int))) = some (.inl (tabN k fun i => ((cntR l i : Nat) : Int))) := by
 have h0 : cntR l 0 = cntE l 0 := by
  unfold cntR cntE
  refine List.countP_congr fun x hx => ?_
  have := hr x hx
  simp; omega
 refine loop_stop k (fun j => (((j + 1 : Nat) : Int), tabN k (fun i => if i ≤ j then ((cntR l i : Nat) : Int) else ((cntE l i : Nat) : Int)))) ?_ (fun j hj => ?_) ?_
 ·rw [Prod.mk.injEq]
  refine ⟨rfl, tabN_congr fun i hi => ?_⟩
  by_cases h : i ≤ 0
  ·rw [if_pos h, show i = 0 by omega, h0]
  ·rw [if_neg h]
 ·have e1 : atL (tabN k (fun i => if i ≤ j then ((cntR l i : Nat) : Int) else ((cntE l i : Nat) : Int))) ((j + 1 : Nat) : Int) = some ((cntE l (j + 1) : Nat) : Int) := atL_some' (by rw [tabN_get _ (by omega), if_neg (by omega)])
  have e2 : atL (tabN k (fun i => if i ≤ j then ((cntR l i : Nat) : Int) else ((cntE l i : Nat) : Int))) (j : Int) = some ((cntR l j : Nat) : Int) := atL_some' (by rw [tabN_get _ (by omega), if_pos (by omega)])
  have w1 : IntKind.i64.wrap (((j + 1 : Nat) : Int) - 1) = (j : Int) := by rw [wrap64 (by omega) (by omega)]; omega
  have w2 : IntKind.i64.wrap (((j + 1 : Nat) : Int) + 1) = ((j + 1 + 1 : Nat) : Int) := by rw [wrap64 (by omega) (by omega)]; omega
  have c1 := cntE_le l (j + 1)
  have c2 := cntR_le l j
  have w3 : IntKind.i64.wrap (((cntE l (j + 1) : Nat) : Int) + ((cntR l j : Nat) : Int)) = ((cntE l (j + 1) : Nat) : Int) + ((cntR l j : Nat) : Int) := wrap64 (by omega) (by omega)
  simp only [csr_Turn_b2, e1, e2, w1, w2, w3, Option.bind_some, Int.toNat_natCast, tabN_len]
  rw [if_pos (by omega), tabN_set _ _ (by omega)]
  refine congrArg (fun z => some (Sum.inl ((((j + 1 + 1 : Nat) : Int), z)))) (tabN_congr fun i hi => ?_)
  have := cntR_succ l j
  by_cases h : i = j + 1
  ·rw [if_pos h, if_pos (by omega), h, this]; omega
  ·rw [if_neg h]
   by_cases h2 : i ≤ j
   ·rw [if_pos h2, if_pos (by omega)]
   ·rw [if_neg h2, if_neg (by omega)]
 ·simp only [csr_Turn_b2, tabN_len]
  rw [if_neg (by omega)]
  refine congrArg (fun z => some (Sum.inr (Sum.inl z))) (tabN_congr fun i hi => ?_)
  rw [if_pos hi]
section
variable {m : Mx} {n c : Int} {l : List E3}
theorem count_loop (h : Is m n c l) : loopO (csr_Turn_b1 m) (0, tabN c.toNat fun _ => 0) = some (.inl (tabN c.toNat fun i => ((cntE (l.map flip3) i : Nat) : Int))) := by
 have hc := h.hc
 have hlen := h.len
 refine loop_stop l.length (fun j => ((j : Int), tabN c.toNat (fun i => ((cntE ((l.take j).map flip3) i : Nat) : Int)))) rfl (fun j hj => ?_) ?_
 ·have ej := atS_some' h.o4 (show m.2.2.2.1.l[j]? = some l[j].2.1 by rw [h.e4, List.getElem?_map, List.getElem?_eq_getElem hj]; rfl)
  have hx := h.p _ (List.getElem_mem hj)
  obtain ⟨row, hrow⟩ := Int.eq_ofNat_of_zero_le hx.2.1
  have hlen2 : ((l.take j).map flip3).length ≤ 65536 := by simp; omega
  have hw : IntKind.i64.wrap (l[j].2.1 + 1) = ((row + 1 : Nat) : Int) := by rw [wrap64 (by omega) (by omega)]; omega
  have hat : atL (tabN c.toNat fun i => ((cntE ((l.take j).map flip3) i : Nat) : Int)) ((row + 1 : Nat) : Int) = some ((cntE ((l.take j).map flip3) (row + 1) : Nat) : Int) := atL_some' (tabN_get _ (by omega))
  have hcc := cntE_le ((l.take j).map flip3) (row + 1)
  have hw2 : IntKind.i64.wrap (((cntE ((l.take j).map flip3) (row + 1) : Nat) : Int) + 1) = ((cntE ((l.take j).map flip3) (row + 1) : Nat) : Int) + 1 := wrap64 (by omega) (by omega)
  simp only [csr_Turn_b1, ej, Option.bind_some, hw, hat, hw2, Int.toNat_natCast, w_succ hj (by omega)]
  rw [if_pos (by rw [h.e4, List.length_map]; omega), tabN_set _ _ (by omega), List.take_succ_eq_append_getElem hj, List.map_append]
  simp only [List.map_cons, List.map_nil]
  refine congrArg (fun z => some (Sum.inl ((((j + 1 : Nat) : Int), z)))) (tabN_congr fun i hi => ?_)
  rw [cntE_app]
  show _ = ((cntE ((l.take j).map flip3) i + if l[j].2.1 + 1 = (i : Int) then 1 else 0 : Nat) : Int)
  rw [hrow]
  by_cases h : i = row + 1
  ·rw [if_pos h, if_pos (by omega), h]; omega
  ·rw [if_neg h, if_neg (by omega)]; omega
 ·simp only [csr_Turn_b1]
  rw [if_neg (by rw [h.e4, List.length_map]; omega), List.take_length]
def setV (l u : List E3) (g : E3 → Int) : List Int := (turnL l).map fun x => if flip3 x ∈ u then g x else 0
def atV (c : Int) (l u : List E3) : List Int := tabN c.toNat fun k => ((cntR (l.map flip3) k + cntK u k : Nat) : Int)
theorem row_loop (h : Is m n c l) {q : List Int × List Int × List Int} {i : Int} {u R w : List E3} (hl : l = u ++ R ++ w) (hR : ∀ x ∈ R, x.1 = i) {s t : Sl Int} (hs : s.l = R.map (·.2.1)) (ht : t.l = R.map (·.2.2)) (os : okS 1 s) (ot : okS 1 t) :
  loopO (csr_Turn_b3 (i, q) (s, t)) (0, setV l u (·.2.1), setV l u (·.2.2), atV c l u) = some (.inl (setV l (u ++ R) (·.2.1), setV l (u ++ R) (·.2.2), atV c l (u ++ R))) := by
 have hc := h.hc
 have hlen := h.len
 have hRl : R.length ≤ 65536 := by have := congrArg List.length hl; simp at this; omega
 refine loop_stop R.length (fun j => ((j : Int), setV l (u ++ R.take j) (·.2.1), setV l (u ++ R.take j) (·.2.2), atV c l (u ++ R.take j))) (by simp) (fun j hj => ?_) ?_
 ·have g := List.getElem?_eq_getElem hj
  have a1 := atS_some' os (show s.l[j]? = some R[j].2.1 by rw [hs, List.getElem?_map, g]; rfl)
  have a2 := atS_some' ot (show t.l[j]? = some R[j].2.2 by rw [ht, List.getElem?_map, g]; rfl)
  have hl2 : l = (u ++ R.take j) ++ R[j] :: (R.drop (j + 1) ++ w) := by
   rw [hl]
   have hsp : R = R.take j ++ R[j] :: R.drop (j + 1) := by rw [List.getElem_cons_drop, List.take_append_drop]
   have : R ++ w = R.take j ++ R[j] :: (R.drop (j + 1) ++ w) := by
    rw [← List.cons_append, ← List.append_assoc, ← hsp]
   rw [List.append_assoc, this, List.append_assoc]
  have hx := h.p R[j] (by rw [hl]; simp)
  obtain ⟨k, hk⟩ := Int.eq_ofNat_of_zero_le hx.2.1
  have hp := turn_place hl2 h.r hk
  have e1 := turn_set hl2 h.r hk (·.2.1)
  have e2 := turn_set hl2 h.r hk (·.2.2)
  have hi : (flip3 R[j]).2.1 = i := hR _ (List.getElem_mem hj)
  have hu : u ++ R.take (j + 1) = u ++ R.take j ++ [R[j]] := by rw [List.take_succ_eq_append_getElem hj, List.append_assoc]
  have c1 := cntR_le (l.map flip3) k
  have c2 := cntK_le (u ++ R.take j) k
  have c3 : (u ++ R.take j).length ≤ 65536 := by have := congrArg List.length hl2; simp at this ⊢; omega
  rw [List.length_map] at c1
  have b1 : atL (atV c l (u ++ R.take j)) R[j].2.1 = some ((cntR (l.map flip3) k + cntK (u ++ R.take j) k : Nat) : Int) := by
   rw [hk]; exact atL_some' (tabN_get _ (by omega))
  have hgs : ∀ g : E3 → Int, ∃ v, (setV l (u ++ R.take j) g)[cntR (l.map flip3) k + cntK (u ++ R.take j) k]? = some v := fun g => ⟨_, by unfold setV; rw [List.getElem?_map, hp]; rfl⟩
  obtain ⟨v1, hv1⟩ := hgs (·.2.1)
  obtain ⟨v2, hv2⟩ := hgs (·.2.2)
  have b2 := atL_some' hv1
  have b3 := atL_some' hv2
  have w1 : IntKind.i64.wrap (((cntR (l.map flip3) k + cntK (u ++ R.take j) k : Nat) : Int) + 1) = ((cntR (l.map flip3) k + cntK (u ++ R.take j) k + 1 : Nat) : Int) := by rw [wrap64 (by omega) (by omega)]; rfl
  simp only [csr_Turn_b3]
  rw [if_pos (by rw [hs, List.length_map]; omega)]
  simp only [a1, a2, b1, b2, b3, w1, Option.bind_some, w_succ hj (by omega), Int.toNat_natCast]
  refine congrArg some (congrArg Sum.inl ?_)
  simp only [Prod.mk.injEq, true_and]
  refine ⟨?_, ?_, ?_⟩
  ·rw [hu, ← hi]; exact e1
  ·rw [hu]; exact e2
  ·rw [hu, hk, Int.toNat_natCast]
   unfold atV
   rw [tabN_set _ _ (by omega)]
   refine tabN_congr fun i2 hi2 => ?_
   rw [cntK_app, hk]
   by_cases h : i2 = k
   ·subst h; simp; omega
   ·rw [if_neg h, if_neg (by omega)]; omega
 ·simp only [csr_Turn_b3]
  rw [if_neg (by rw [hs, List.length_map]; omega), List.take_length]
theorem setV_all (l : List E3) (g : E3 → Int) : setV l l g = (turnL l).map g := by
 unfold setV
 refine List.map_congr_left fun x hx => ?_
 rw [if_pos (turn_mem.1 hx)]
theorem setV_nil (l : List E3) (g : E3 → Int) : setV l [] g = List.replicate l.length 0 := by
 unfold setV
 rw [← turn_len l, List.eq_replicate_iff]
 exact ⟨List.length_map .., fun b hb => by obtain ⟨x, _, rfl⟩ := List.mem_map.1 hb; simp⟩
theorem csr_Turn_x (h : Is m n c l) : csr_Turn m = some (c, n, ⟨true, 1, tabN c.toNat fun i => ((cntR (l.map flip3) i : Nat) : Int)⟩, ⟨true, 1, (turnL l).map (·.2.1)⟩, ⟨true, 1, (turnL l).map (·.2.2)⟩) := by
 have hc := h.hc
 have hn := h.hn
 have hlen := h.len
 have tk : (c + 1).toNat = c.toNat + 1 := by omega
 rw [csr_Turn_eq, csr_sure_is h]
 simp only [Option.bind_some]
 rw [h.e1, h.e2, h.e4, h.e5, wrap64 (by omega) (by omega), capOk_self, len_one hc, List.length_map, List.length_map, capOk_self, len_ok (by omega)]
 simp only [Option.bind_some, tk, Int.toNat_natCast]
 rw [tabN_zero, count_loop h]
 simp only [Option.bind_some, Sum.elim_inl]
 rw [prefix_loop (by omega) (by rw [List.length_map]; exact hlen) (fun x hx => (h.p _ (mem_flip.1 hx)).2.1)]
 simp only [Option.bind_some, Sum.elim_inl]
 rw [app_ok (by rw [tabN_len]; unfold bound; simp; omega), List.nil_append]
 simp only [Option.bind_some]
 have q : loopO (csr_Turn_b4 m) (0, List.replicate l.length 0, List.replicate l.length 0, tabN c.toNat fun i => ((cntR (l.map flip3) i : Nat) : Int)) = some (.inl ((turnL l).map (·.2.1), (turnL l).map (·.2.2))) := by
  refine loop_stop n.toNat (fun i => ((i : Int), setV l (belR l (i : Int)) (·.2.1), setV l (belR l (i : Int)) (·.2.2), atV c l (belR l (i : Int)))) ?_ (fun i hi => ?_) ?_
  ·rw [show ((0 : Nat) : Int) = 0 from rfl, belR_none fun x hx => (h.p x hx).1.1, setV_nil, setV_nil]
   refine congrArg (fun z => ((0 : Int), List.replicate l.length (0 : Int), List.replicate l.length (0 : Int), z)) (tabN_congr fun i hi => ?_)
   simp [cntK]
  ·obtain ⟨s, t, e1, e2, e3, e4, e5⟩ := csr_row_is h (i : Int)
   simp only [csr_Turn_b4]
   rw [h.e1, if_pos (by omega), e1]
   simp only [Option.bind_some]
   have hsplit : l = belR l (i : Int) ++ rowI l (i : Int) ++ (l.filter fun x => !decide (x.1 < ((i + 1 : Nat) : Int))) := by
    rw [← belR_succ h.r]
    exact (split_lt (rises_le h.r) _).symm
   rw [row_loop h hsplit (fun x hx => (rowI_fst hx).2) e2 e3 e4 e5]
   simp only [Option.bind_some, Sum.elim_inl]
   rw [w_succ hi (by omega), belR_succ h.r]
  ·simp only [csr_Turn_b4]
   rw [h.e1, if_neg (by omega), belR_all fun x hx => by have := (h.p x hx).1; omega, setV_all, setV_all]
 rw [q]
 simp only [Option.bind_some, Sum.elim_inl]
theorem csr_Turn_is (h : Is m n c l) : ∃ m', csr_Turn m = some m' ∧ Is m' c n (turnL l) := by
 have hc := h.hc
 have hn := h.hn
 have hlen := h.len
 rw [csr_Turn_x h]
 refine ⟨_, rfl, hc, hn, by rw [turn_len]; exact hlen, turn_rises h.r, fun x hx => ?_, fun x hx => h.v (flip3 x) (turn_mem.1 hx), rfl, rfl, ?_, rfl, rfl, .inr rfl, .inr rfl, .inr rfl⟩
 ·have := h.p _ (turn_mem.1 hx)
  exact ⟨this.2, this.1⟩
 ·refine tabN_congr fun k hk => ?_
  unfold cntR
  rw [(turn_perm l).countP_eq]
end
end Ev
end Go.Proofs.Ytlkcneneagifoaa
end
section
namespace Go.Proofs.Ytlkcneneagifoaa
namespace Ev
open Go Sm
set_option linter.unusedVariables false
set_option linter.unusedSimpArgs false
section
variable {m : Mx}
end
end Ev
end Go.Proofs.Ytlkcneneagifoaa
end
section
namespace Go.Proofs.Ytlkcneneagifoaa
namespace Ev
open Go Sm
set_option linter.unusedVariables false
set_option linter.unusedSimpArgs false
abbrev Cx := Int × Int × Sl Int × Sl Int × Sl Int × Sl Int
def neC (T : List E3) (k : Nat) : Bool := decide (cntR T k < cntR T (k + 1))
def colsN (T : List E3) (n : Nat) : List Int := ((List.range n).filter (neC T)).map fun (k : Nat) => (k : Int)
def endsN (T : List E3) (n : Nat) : List Int := ((List.range n).filter (neC T)).map fun (k : Nat) => ((cntR T (k + 1) : Nat) : Int)
def startN (T : List E3) (n : Nat) : List Int := 0 :: endsN T n
section
variable {T : List E3}
theorem colsN_succ (n : Nat) : colsN T (n + 1) = colsN T n ++ if neC T n = true then [(n : Int)] else [] := by
 unfold colsN
 rw [List.range_succ, List.filter_append, List.map_append]
 by_cases h : neC T n = true <;> simp [h]
theorem endsN_succ (n : Nat) : endsN T (n + 1) = endsN T n ++ if neC T n = true then [((cntR T (n + 1) : Nat) : Int)] else [] := by
 unfold endsN
 rw [List.range_succ, List.filter_append, List.map_append]
 by_cases h : neC T n = true <;> simp [h]
theorem ends_len (n : Nat) : (endsN T n).length = (colsN T n).length := by unfold endsN colsN; simp
theorem start_len (n : Nat) : (startN T n).length = (colsN T n).length + 1 := by unfold startN; rw [List.length_cons, ends_len]
theorem startN_succ (n : Nat) : startN T (n + 1) = startN T n ++ if neC T n = true then [((cntR T (n + 1) : Nat) : Int)] else [] := by
 unfold startN
 rw [endsN_succ, List.cons_append]
theorem cols_len (n : Nat) : (colsN T n).length ≤ n := by
 unfold colsN
 rw [List.length_map]
 exact Nat.le_trans (List.length_filter_le _ _) (by rw [List.length_range]; exact Nat.le_refl _)
theorem cnt_succ (T : List E3) (k : Nat) : cntR T (k + 1) = cntR T k + (rowI T (k : Int)).length := by
 unfold cntR rowI
 induction T with
 | nil => rfl
 | cons x l ih =>
  rw [List.countP_cons, List.countP_cons, List.filter_cons, ih]
  by_cases h : x.1 < (k : Int)
  ·rw [if_pos (decide_eq_true (by omega)), if_pos (decide_eq_true h), if_neg (by simp; omega)]
   omega
  ·by_cases h2 : x.1 = (k : Int)
   ·rw [if_pos (decide_eq_true (by omega)), if_neg (by simpa using h), if_pos (decide_eq_true h2), List.length_cons]
    omega
   ·rw [if_neg (by simp; omega), if_neg (by simpa using h), if_neg (by simpa using h2)]
    omega
theorem neC_iff {k : Nat} : neC T k = true ↔ rowI T (k : Int) ≠ [] := by
 unfold neC
 rw [cnt_succ, decide_eq_true_eq, ← List.length_pos_iff]
 omega
theorem cnt_zero (h0 : ∀ x ∈ T, 0 ≤ x.1) : cntR T 0 = 0 := by
 unfold cntR
 rw [List.countP_eq_zero]
 intro x hx
 have := h0 x hx
 simp
 omega
theorem cols_mem {n : Nat} {x : Int} : x ∈ colsN T n ↔ ∃ j : Nat, x = (j : Int) ∧ j < n ∧ neC T j = true := by
 unfold colsN
 rw [List.mem_map]
 constructor
 ·rintro ⟨j, h1, h2⟩
  rw [List.mem_filter, List.mem_range] at h1
  exact ⟨j, h2.symm, h1⟩
 ·rintro ⟨j, h1, h2⟩
  exact ⟨j, by rw [List.mem_filter, List.mem_range]; exact h2, h1.symm⟩
theorem cols_asc (n : Nat) : (colsN T n).Pairwise (· < ·) := by
 unfold colsN
 rw [List.pairwise_map]
 exact (List.pairwise_lt_range.sublist List.filter_sublist).imp fun h => by omega
theorem start_last (h0 : ∀ x ∈ T, 0 ≤ x.1) : ∀ n : Nat, (startN T n)[(colsN T n).length]? = some ((cntR T n : Nat) : Int)
 | 0 => by rw [cnt_zero h0]; rfl
 | n + 1 => by
  rw [startN_succ, colsN_succ]
  by_cases h : neC T n = true
  ·rw [if_pos h, if_pos h, List.length_append, List.length_singleton, List.getElem?_append_right (by rw [start_len]; exact Nat.le_refl _), start_len, Nat.sub_self]
   rfl
  ·rw [if_neg h, if_neg h, List.append_nil, List.append_nil, start_last h0 n]
   have : ¬ cntR T n < cntR T (n + 1) := by simpa [neC] using h
   have h3 := cnt_succ T n
   have : cntR T (n + 1) = cntR T n := by omega
   rw [this]
theorem start_at (h0 : ∀ x ∈ T, 0 ≤ x.1) : ∀ (n i j : Nat), (colsN T n)[i]? = some (j : Int) → (j < n ∧ neC T j = true) ∧ (startN T n)[i]? = some ((cntR T j : Nat) : Int) ∧ (startN T n)[i + 1]? = some ((cntR T (j + 1) : Nat) : Int)
 | 0, i, j, h => by simp [colsN] at h
 | n + 1, i, j, h => by
  have hL := start_len (T := T) n
  by_cases hn : neC T n = true
  ·rw [colsN_succ, if_pos hn] at h
   rw [startN_succ, if_pos hn]
   by_cases hi : i < (colsN T n).length
   ·rw [List.getElem?_append_left hi] at h
    obtain ⟨⟨h1, h2⟩, h3, h4⟩ := start_at h0 n i j h
    exact ⟨⟨by omega, h2⟩, by rw [List.getElem?_append_left (by omega), h3], by rw [List.getElem?_append_left (by omega), h4]⟩
   ·have hi2 := (List.getElem?_eq_some_iff.1 h).1
    rw [List.length_append, List.length_singleton] at hi2
    obtain rfl : i = (colsN T n).length := by omega
    rw [List.getElem?_append_right (Nat.le_refl _), Nat.sub_self] at h
    have : (n : Int) = (j : Int) := by simpa using h
    obtain rfl : n = j := by omega
    refine ⟨⟨by omega, hn⟩, ?_, ?_⟩
    ·rw [List.getElem?_append_left (by omega), start_last h0]
    ·rw [List.getElem?_append_right (by omega), hL, Nat.sub_self]; rfl
  ·rw [colsN_succ, if_neg hn, List.append_nil] at h
   rw [startN_succ, if_neg hn, List.append_nil]
   obtain ⟨⟨h1, h2⟩, h3⟩ := start_at h0 n i j h
   exact ⟨⟨by omega, h2⟩, h3⟩
theorem asc_ext : ∀ {a b : List Int}, a.Pairwise (· < ·) → b.Pairwise (· < ·) → (∀ x, x ∈ a ↔ x ∈ b) → a = b
 | [], [], _, _, _ => rfl
 | [], y :: b, _, _, h => by have := (h y).2 (by simp); simp at this
 | x :: a, [], _, _, h => by have := (h x).1 (by simp); simp at this
 | x :: a, y :: b, ha, hb, h => by
  rw [List.pairwise_cons] at ha hb
  have hx := (h x).1 (by simp)
  have hy := (h y).2 (by simp)
  have e : x = y := by
   rcases List.mem_cons.1 hx with e | h1
   ·exact e
   ·rcases List.mem_cons.1 hy with e | h2
    ·exact e.symm
    ·have := hb.1 _ h1
     have := ha.1 _ h2
     omega
  subst e
  refine congrArg _ (asc_ext ha.2 hb.2 fun z => ⟨fun hz => ?_, fun hz => ?_⟩)
  ·have h1 := ha.1 z hz
   rcases List.mem_cons.1 ((h z).1 (List.mem_cons_of_mem _ hz)) with e | h2
   ·omega
   ·exact h2
  ·have h1 := hb.1 z hz
   rcases List.mem_cons.1 ((h z).2 (List.mem_cons_of_mem _ hz)) with e | h2
   ·omega
   ·exact h2
end
structure IsC (c : Cx) (n k : Int) (T : List E3) : Prop where
 hn : 0 ≤ n ∧ n ≤ 4096
 hk : 0 ≤ k ∧ k ≤ 4096
 len : T.length ≤ 65536
 r : rises T
 p : ∀ x ∈ T, (0 ≤ x.1 ∧ x.1 < k) ∧ 0 ≤ x.2.1 ∧ x.2.1 < n
 v : ∀ x ∈ T, i64r x.2.2
 e1 : c.1 = n
 e2 : c.2.1 = k
 e3 : c.2.2.1.l = colsN T k.toNat
 e4 : c.2.2.2.1.l = startN T k.toNat
 e5 : c.2.2.2.2.1.l = T.map (·.2.1)
 e6 : c.2.2.2.2.2.l = T.map (·.2.2)
 o3 : okS 1 c.2.2.1
 o4 : okS 1 c.2.2.2.1
 o5 : okS 1 c.2.2.2.2.1
 o6 : okS 1 c.2.2.2.2.2
section
variable {c : Cx} {n k : Int} {T : List E3}
theorem IsC.h0 (h : IsC c n k T) : ∀ x ∈ T, 0 ≤ x.1 := fun x hx => (h.p x hx).1.1
theorem IsC.at_ge (h : IsC c n k T) {i : Nat} {j : Int} (hi : c.2.2.1.l[i]? = some j) : ∃ jn : Nat, j = (jn : Int) ∧ jn < k.toNat ∧ neC T jn = true ∧ c.2.2.2.1.l[i]? = some ((cntR T jn : Nat) : Int) ∧ c.2.2.2.1.l[i + 1]? = some ((cntR T (jn + 1) : Nat) : Int) := by
 rw [h.e3] at hi
 obtain ⟨jn, rfl, h1, h2⟩ := cols_mem.1 (List.mem_of_getElem? hi)
 obtain ⟨_, h3, h4⟩ := start_at h.h0 _ _ _ hi
 rw [← h.e4] at h3 h4
 exact ⟨jn, rfl, h1, h2, h3, h4⟩
theorem IsC.mem_iff (h : IsC c n k T) {j : Int} : j ∈ c.2.2.1.l ↔ rowI T j ≠ [] := by
 rw [h.e3, cols_mem]
 constructor
 ·rintro ⟨jn, rfl, _, h2⟩
  exact neC_iff.1 h2
 ·intro hne
  obtain ⟨x, hx⟩ := List.exists_mem_of_ne_nil _ hne
  obtain ⟨h1, h2⟩ := rowI_fst hx
  have := (h.p x h1).1
  rw [h2] at this
  refine ⟨j.toNat, by omega, by omega, ?_⟩
  rw [neC_iff, show ((j.toNat : Nat) : Int) = j by omega]
  exact hne
theorem IsC.atLen (h : IsC c n k T) : c.2.2.1.l.length ≤ 4096 := by
 rw [h.e3]
 have := cols_len (T := T) k.toNat
 have := h.hk
 omega
theorem IsC.stLen (h : IsC c n k T) : c.2.2.2.1.l.length = c.2.2.1.l.length + 1 := by rw [h.e4, h.e3, start_len]
theorem IsC.asc (h : IsC c n k T) : c.2.2.1.l.Pairwise (· < ·) := by rw [h.e3]; exact cols_asc _
theorem cntR_top (hp : ∀ x ∈ T, x.1 < k) {j : Nat} (hj : k ≤ (j : Int)) : cntR T j = T.length := by
 unfold cntR
 rw [List.countP_eq_length]
 intro x hx
 have := hp x hx
 simp
 omega
theorem IsC.last (h : IsC c n k T) : c.2.2.2.1.l[c.2.2.1.l.length]? = some (T.length : Int) := by
 rw [h.e4, h.e3, start_last h.h0, cntR_top (fun x hx => (h.p x hx).1.2) (by have := h.hk; omega)]
end
def colOk (r : Int) (st ro : List Int) (i : Nat) : Bool := decide (0 ≤ st.getD i 0) && (decide (st.getD i 0 < st.getD (i + 1) 0) && (decide (st.getD (i + 1) 0 ≤ ro.length) && ascI (-1) r (cutL ro (st.getD i 0) (st.getD (i + 1) 0))))
def rightC (c : Cx) : Bool := sizeF c.1 && (sizeF c.2.1 && (decide (c.2.2.2.1.l.length = c.2.2.1.l.length + 1) && (decide (c.2.2.2.1.l.getD 0 0 = 0) && (ascI (-1) c.2.1 c.2.2.1.l && (decide (c.2.2.2.2.1.l.length = c.2.2.2.2.2.l.length) && (decide (c.2.2.2.2.1.l.length ≤ 65536) && (decide (c.2.2.2.1.l.getD c.2.2.1.l.length 0 = c.2.2.2.2.1.l.length) && (List.range c.2.2.1.l.length).all (colOk c.1 c.2.2.2.1.l c.2.2.2.2.1.l))))))))
structure OkC (c : Cx) : Prop where
 a : okS 1 c.2.2.1
 s : okS 1 c.2.2.2.1
 r : okS 1 c.2.2.2.2.1
 v : okS 1 c.2.2.2.2.2
 va : ∀ y ∈ c.2.2.2.2.2.l, i64r y
 la : c.2.2.1.l.length ≤ 4096
 ls : c.2.2.2.1.l.length ≤ 9223372036854775806
 lr : c.2.2.2.2.1.l.length ≤ 9223372036854775806
 lv : c.2.2.2.2.2.l.length ≤ 9223372036854775806
def compM (c : Cx) : Mx := (c.2.2.1.l.length, c.1, c.2.2.2.1, c.2.2.2.2.1, c.2.2.2.2.2)
section
variable {c : Cx}
theorem rightC_spec (h : rightC c = true) : (0 ≤ c.1 ∧ c.1 ≤ 4096) ∧ (0 ≤ c.2.1 ∧ c.2.1 ≤ 4096) ∧ c.2.2.2.1.l.length = c.2.2.1.l.length + 1 ∧ c.2.2.2.1.l.getD 0 0 = 0 ∧ ascI (-1) c.2.1 c.2.2.1.l = true ∧ c.2.2.2.2.1.l.length = c.2.2.2.2.2.l.length ∧ c.2.2.2.2.1.l.length ≤ 65536 ∧ c.2.2.2.1.l.getD c.2.2.1.l.length 0 = c.2.2.2.2.1.l.length ∧ ∀ i, i < c.2.2.1.l.length → colOk c.1 c.2.2.2.1.l c.2.2.2.2.1.l i = true := by
 unfold rightC at h
 simp only [Bool.and_eq_true, decide_eq_true_eq, sizeF_iff, all_range] at h
 exact h
theorem OkC.ok (h : OkC c) : OkM (compM c) := ⟨h.s, h.r, h.v, h.va, Nat.le_succ_of_le h.ls, Nat.le_succ_of_le h.lr, Nat.le_succ_of_le h.lv⟩
end
end Ev
end Go.Proofs.Ytlkcneneagifoaa
end
section
namespace Go.Proofs.Ytlkcneneagifoaa
namespace Ev
open Go Sm
set_option linter.unusedVariables false
set_option linter.unusedSimpArgs false
section
variable {m : Mx} {n c : Int} {l : List E3}
end
end Ev
end Go.Proofs.Ytlkcneneagifoaa
end
section
namespace Go.Proofs.Ytlkcneneagifoaa
namespace Ev
open Go Sm
set_option linter.unusedVariables false
set_option linter.unusedSimpArgs false
def pr2 (x : E3) : Int × Int := (x.2.1, x.2.2)
section
variable {m : Mx} {n c : Int} {l : List E3}
theorem Is.at_va (h : Is m n c l) {i : Nat} (hi : i < l.length) : atS 1 m.2.2.2.2 (i : Int) = some l[i].2.2 := atS_some' h.o5 (by rw [h.e5, List.getElem?_map, List.getElem?_eq_getElem hi]; rfl)
end
end Ev
end Go.Proofs.Ytlkcneneagifoaa
end
section
namespace Go.Proofs.Ytlkcneneagifoaa
namespace Ev
open Go Sm
set_option linter.unusedVariables false
set_option linter.unusedSimpArgs false
theorem dcsc_size_w (n : Int) : dcsc_size n = some (sizeF n) := by
 rw [← csr_size_w, dcsc_size_eq, csr_size_eq]
theorem dcsc_rises_w (s : Sl Int) (n : Int) (hok : okS 1 s) (hl : s.l.length ≤ 9223372036854775807) : dcsc_rises s n = some (ascI (-1) n s.l) := by
 rw [← csr_rises_w s n hok hl, dcsc_rises_eq, csr_rises_eq]
 rfl
theorem rfalse {c : Cx} (h : rightC c = true → False) : some false = some (rightC c) := by rw [Bool.eq_false_iff.2 h]
theorem colOk_iff {r : Int} {st ro : List Int} {i : Nat} : colOk r st ro i = true ↔ 0 ≤ st.getD i 0 ∧ st.getD i 0 < st.getD (i + 1) 0 ∧ st.getD (i + 1) 0 ≤ (ro.length : Int) ∧ ascI (-1) r (cutL ro (st.getD i 0) (st.getD (i + 1) 0)) = true := by
 unfold colOk
 simp only [Bool.and_eq_true, decide_eq_true_eq]
theorem rows_dcsc {r k : Int} {a s t v : Sl Int} (hs : okS 1 s) (ht : okS 1 t) (hn : a.l.length ≤ 4096) (hl : s.l.length = a.l.length + 1) (h0 : s.l.getD 0 0 = 0) (tl : t.l.length ≤ 65536) : ∃ q, loopO (dcsc_Right_b1 (r, k, a, s, t, v)) 0 = some q ∧ (((List.range a.l.length).all (colOk r s.l t.l) = true ∧ q = .inl ()) ∨ ((List.range a.l.length).all (colOk r s.l t.l) = false ∧ q = .inr (.inl false))) := by
 refine loop_up (b := dcsc_Right_b1 (r, k, a, s, t, v)) a.l.length (fun j z => z = (j : Int) ∧ 0 ≤ s.l.getD j 0 ∧ ∀ i, i < j → colOk r s.l t.l i = true) _ ?_ ?_ 0 (Nat.zero_le _) 0 ⟨rfl, by omega, fun i hi => absurd hi (by omega)⟩
 ·rintro j _ hj ⟨rfl, hp, ha⟩
  have e1 := at_get hs (j := j) (by omega)
  have e2 := at_get hs (j := j + 1) (by omega)
  rw [← getD_lt] at e1 e2
  simp only [dcsc_Right_b1, e1, Option.bind_some, w_succ hj (by omega)]
  rw [if_pos (by omega), e2]
  simp only [Option.bind_some]
  have bad : ¬ colOk r s.l t.l j = true → (List.range a.l.length).all (colOk r s.l t.l) = false := fun h => all_false hj (Bool.eq_false_iff.2 h)
  by_cases c1 : s.l.getD (j + 1) 0 ≤ s.l.getD j 0
  ·rw [if_pos c1]
   exact .inr ⟨_, rfl, .inr ⟨bad fun h => by have := colOk_iff.1 h; omega, rfl⟩⟩
  rw [if_neg c1]
  by_cases c2 : s.l.getD (j + 1) 0 > ((t.l.length : Nat) : Int)
  ·rw [if_pos c2]
   exact .inr ⟨_, rfl, .inr ⟨bad fun h => by have := colOk_iff.1 h; omega, rfl⟩⟩
  rw [if_neg c2]
  have hc : cutS 1 t (s.l.getD j 0) (s.l.getD (j + 1) 0) = some ⟨t.nn, t.sz, cutL t.l (s.l.getD j 0) (s.l.getD (j + 1) 0)⟩ := by
   unfold cutS
   have hz : t.sz = 1 ∨ s.l.getD j 0 = 0 := by
    rcases ht with h | h
    ·rw [h] at c2; simp only [List.length_nil] at c2; omega
    ·exact .inl h
   rw [if_pos ⟨hp, by omega, by omega, hz⟩]; rfl
  rw [hc]
  simp only [Option.bind_some]
  have hcl : (cutL t.l (s.l.getD j 0) (s.l.getD (j + 1) 0)).length ≤ 65536 := by rw [cutL_len ⟨hp, by omega, by omega⟩]; omega
  have hok : okS 1 (⟨t.nn, t.sz, cutL t.l (s.l.getD j 0) (s.l.getD (j + 1) 0)⟩ : Sl Int) := by
   rcases ht with h | h
   ·left; unfold cutL; simp [h]
   ·exact .inr h
  rw [dcsc_rises_w _ r hok (show (cutL t.l (s.l.getD j 0) (s.l.getD (j + 1) 0)).length ≤ _ by omega)]
  simp only [Option.bind_some]
  cases hb : ascI (-1) r (cutL t.l (s.l.getD j 0) (s.l.getD (j + 1) 0)) with
  | true =>
   rw [if_neg (by simp)]
   refine .inl ⟨_, rfl, rfl, by omega, fun i hi => ?_⟩
   by_cases e : i = j
   ·rw [e]
    exact colOk_iff.2 ⟨hp, by omega, by omega, hb⟩
   ·exact ha i (by omega)
  | false =>
   rw [if_pos (by simp)]
   exact .inr ⟨_, rfl, .inr ⟨bad fun h => (by have := (colOk_iff.1 h).2.2.2; rw [hb] at this; cases this), rfl⟩⟩
 ·rintro _ ⟨rfl, hp, ha⟩
  exact ⟨_, if_neg (show ¬ ((a.l.length : Nat) : Int) < ((a.l.length : Nat) : Int) by omega), .inl ⟨all_range.2 ha, rfl⟩⟩
theorem rightC_of {c : Cx} (h1 : sizeF c.1 = true) (h2 : sizeF c.2.1 = true) (h3 : c.2.2.2.1.l.length = c.2.2.1.l.length + 1) (h4 : c.2.2.2.1.l.getD 0 0 = 0) (h5 : ascI (-1) c.2.1 c.2.2.1.l = true) (h6 : c.2.2.2.2.1.l.length = c.2.2.2.2.2.l.length) (h7 : c.2.2.2.2.1.l.length ≤ 65536) (h8 : c.2.2.2.1.l.getD c.2.2.1.l.length 0 = c.2.2.2.2.1.l.length) : rightC c = (List.range c.2.2.1.l.length).all (colOk c.1 c.2.2.2.1.l c.2.2.2.2.1.l) := by
 unfold rightC
 rw [h1, h2, decide_eq_true h3, decide_eq_true h4, h5, decide_eq_true h6, decide_eq_true h7, decide_eq_true h8]
 rfl
theorem dcsc_Right_w {c : Cx} (h : OkC c) : dcsc_Right c = some (rightC c) := by
 obtain ⟨r, k, a, s, t, v⟩ := c
 obtain ⟨o1, o2, o3, o4, vv, la, ls, lr, lv⟩ := h
 simp only at o1 o2 o3 o4 vv la ls lr lv
 rw [dcsc_Right_eq]
 simp only [dcsc_size_w, Option.bind_some]
 by_cases z1 : sizeF r = true
 rotate_left
 ·rw [if_pos z1]; exact rfalse fun h => z1 (sizeF_iff.2 (rightC_spec h).1)
 rw [if_neg (fun h => h z1)]
 by_cases z2 : sizeF k = true
 rotate_left
 ·rw [if_pos z2]; exact rfalse fun h => z2 (sizeF_iff.2 (rightC_spec h).2.1)
 rw [if_neg (fun h => h z2), wrap64 (n := ((a.l.length : Nat) : Int) + 1) (by omega) (by omega)]
 by_cases g1 : s.l.length = a.l.length + 1
 rotate_left
 ·rw [if_pos (by omega)]; exact rfalse fun h => g1 (rightC_spec h).2.2.1
 rw [if_neg (by omega)]
 have e0 := at_get o2 (j := 0) (by omega)
 rw [← getD_lt] at e0
 have e0' : atS 1 s 0 = some (s.l.getD 0 0) := e0
 rw [e0']
 simp only [Option.bind_some]
 by_cases g2 : s.l.getD 0 0 = 0
 rotate_left
 ·rw [if_pos g2]; exact rfalse fun h => g2 (rightC_spec h).2.2.2.1
 rw [if_neg (fun h => h g2), dcsc_rises_w _ _ o1 (by omega)]
 simp only [Option.bind_some]
 by_cases g3 : ascI (-1) k a.l = true
 rotate_left
 ·rw [if_pos g3]; exact rfalse fun h => g3 (rightC_spec h).2.2.2.2.1
 rw [if_neg (fun h => h g3)]
 by_cases g4 : t.l.length = v.l.length
 rotate_left
 ·rw [if_pos (by omega)]; exact rfalse fun h => g4 (rightC_spec h).2.2.2.2.2.1
 rw [if_neg (by omega)]
 by_cases g5 : t.l.length ≤ 65536
 rotate_left
 ·rw [if_pos (by omega)]; exact rfalse fun h => g5 (rightC_spec h).2.2.2.2.2.2.1
 rw [if_neg (by omega)]
 have en := at_get o2 (j := a.l.length) (by omega)
 rw [← getD_lt] at en
 rw [en]
 simp only [Option.bind_some]
 by_cases g6 : s.l.getD a.l.length 0 = ((t.l.length : Nat) : Int)
 rotate_left
 ·rw [if_pos g6]; exact rfalse fun h => g6 (rightC_spec h).2.2.2.2.2.2.2.1
 rw [if_neg (fun h => h g6)]
 obtain ⟨q, q1, q2⟩ := rows_dcsc (r := r) (k := k) (v := v) o2 o3 la g1 g2 g5
 rw [q1, rightC_of z1 z2 g1 g2 g3 g4 g5 g6]
 rcases q2 with ⟨e, rfl⟩ | ⟨e, rfl⟩ <;> simp only [e] <;> rfl
section
variable {c : Cx} {n k : Int} {T : List E3}
theorem IsC.ok (h : IsC c n k T) : OkC c := by
 have := h.atLen
 have := h.stLen
 have := h.len
 refine ⟨h.o3, h.o4, h.o5, h.o6, fun y hy => ?_, by omega, by omega, ?_, ?_⟩
 ·rw [h.e6] at hy
  obtain ⟨x, hx, rfl⟩ := List.mem_map.1 hy
  exact h.v x hx
 ·rw [h.e5, List.length_map]; omega
 ·rw [h.e6, List.length_map]; omega
theorem getD_some {l : List Int} {i : Nat} {x : Int} (h : l[i]? = some x) : l.getD i 0 = x := by rw [List.getD_eq_getElem?_getD, h]; rfl
theorem IsC.right (h : IsC c n k T) : rightC c = true := by
 have hl := h.last
 have hlen := h.len
 rw [rightC_of (sizeF_iff.2 (by rw [h.e1]; exact h.hn)) (sizeF_iff.2 (by rw [h.e2]; exact h.hk)) h.stLen (by rw [h.e4]; rfl) ?_ (by rw [h.e5, h.e6, List.length_map, List.length_map]) (by rw [h.e5, List.length_map]; exact hlen) (by rw [getD_some hl, h.e5, List.length_map])]
 ·refine all_range.2 fun i hi => colOk_iff.2 ?_
  obtain ⟨jn, e1, h1, h2, h3, h4⟩ := h.at_ge (List.getElem?_eq_getElem hi)
  rw [getD_some h3, getD_some h4, h.e5, List.length_map]
  have h5 : cntR T jn < cntR T (jn + 1) := by simpa [neC] using h2
  have h6 := cntR_le T (jn + 1)
  refine ⟨by omega, by omega, by omega, ?_⟩
  rw [cutL_map]
  unfold cutL
  rw [Int.toNat_natCast, Int.toNat_natCast, (row_cut h.r jn).2, ← rowI_nat, ascI_iff']
  refine ⟨row_asc h.r _, fun x hx => ?_⟩
  obtain ⟨y, hy, rfl⟩ := List.mem_map.1 hx
  have := (h.p y (rowI_fst hy).1).2
  rw [h.e1]
  omega
 ·rw [h.e2, ascI_iff']
  refine ⟨h.asc, fun x hx => ?_⟩
  rw [h.e3] at hx
  obtain ⟨j, rfl, h1, _⟩ := cols_mem.1 hx
  omega
theorem dcsc_Right_is (h : IsC c n k T) : dcsc_Right c = some true := by rw [dcsc_Right_w h.ok, h.right]
theorem dcsc_sure_is (h : IsC c n k T) : dcsc_sure c = some c := by rw [dcsc_sure_eq, dcsc_Right_is h]; rfl
end
end Ev
end Go.Proofs.Ytlkcneneagifoaa
end
section
namespace Go.Proofs.Ytlkcneneagifoaa
namespace Ev
open Go Sm
set_option linter.unusedVariables false
set_option linter.unusedSimpArgs false
theorem cutS_all {s : Sl Int} {a b : Nat} (hs : okS 1 s) (hab : a ≤ b) (hb : b ≤ s.l.length) : ∃ t : Sl Int, cutS 1 s (a : Int) (b : Int) = some t ∧ t.l = (s.l.drop a).take (b - a) ∧ okS 1 t := by
 have hz : s.sz = 1 ∨ (a : Int) = 0 := by
  rcases hs with h | h
  ·rw [h] at hb; simp at hb; right; omega
  ·exact .inl h
 refine ⟨⟨s.nn, s.sz, (s.l.drop a).take (b - a)⟩, ?_, rfl, ?_⟩
 ·unfold cutS
  rw [if_pos ⟨by omega, by omega, by omega, hz⟩]
  simp
 ·rcases hs with h | h
  ·left; simp [h]
  ·exact .inr h
def colV (n k : Int) (T : List E3) : Cx := (n, k, mo 1 (colsN T k.toNat), ⟨true, 1, startN T k.toNat⟩, ⟨true, 1, T.map (·.2.1)⟩, ⟨true, 1, T.map (·.2.2)⟩)
section
variable {m : Mx} {n k : Int} {l T : List E3} {c : Cx}
theorem colV_is (hn : 0 ≤ n ∧ n ≤ 4096) (hk : 0 ≤ k ∧ k ≤ 4096) (hl : T.length ≤ 65536) (h : rises T) (hp : ∀ x ∈ T, (0 ≤ x.1 ∧ x.1 < k) ∧ 0 ≤ x.2.1 ∧ x.2.1 < n) (hv : ∀ x ∈ T, i64r x.2.2) : IsC (colV n k T) n k T :=
 ⟨hn, hk, hl, h, hp, hv, rfl, rfl, mo_l _ _, rfl, rfl, rfl, ok_mo _, .inr rfl, .inr rfl, .inr rfl⟩
theorem cnt_turn (l : List E3) (i : Nat) : cntR (l.map flip3) i = cntR (turnL l) i := by
 unfold cntR
 rw [(turn_perm l).countP_eq]
theorem dcsc_Of_x (h : Is m n k l) : K.dcsc_Of m = some (colV n k (turnL l)) := by
 have hk := h.hc
 have hT := turn_rises h.r
 have e : L2.csr_Turn m = some (k, n, ⟨true, 1, tabN k.toNat fun i => ((cntR (l.map flip3) i : Nat) : Int)⟩, ⟨true, 1, (turnL l).map (·.2.1)⟩, ⟨true, 1, (turnL l).map (·.2.2)⟩) := csr_Turn_x h
 rw [show (tabN k.toNat fun i => ((cntR (l.map flip3) i : Nat) : Int)) = tabN k.toNat fun i => ((cntR (turnL l) i : Nat) : Int) from tabN_congr fun i _ => by rw [cnt_turn]] at e
 generalize turnL l = T at *
 obtain ⟨m1, m2, m3, m4, m5⟩ := m
 unfold K.dcsc_Of L2.dcsc_Of
 simp only [e, Option.bind_some]
 obtain ⟨t, t1, t2, t3⟩ := cutS_all (s := ⟨true, 1, tabN k.toNat fun i => ((cntR T i : Nat) : Int)⟩) (a := 0) (b := k.toNat) (.inr rfl) (by omega) (by rw [tabN_len]; omega)
 simp only at t2
 have hw : IntKind.i64.wrap ((((tabN k.toNat fun i => ((cntR T i : Nat) : Int)).length : Nat) : Int) - 1) = ((k.toNat : Nat) : Int) := by rw [tabN_len, wrap64 (by omega) (by omega)]; omega
 rw [hw, show (0 : Int) = ((0 : Nat) : Int) from rfl, t1]
 simp only [Option.bind_some]
 have tl : t.l.length = k.toNat := by rw [t2]; simp [tabN_len]
 have q : loopO (L2.dcsc_Of_b1 ⟨true, 1, tabN k.toNat fun i => ((cntR T i : Nat) : Int)⟩ t) (((0 : Nat) : Int), [], [((0 : Nat) : Int)]) = some (.inl (colsN T k.toNat, startN T k.toNat)) := by
  refine loop_stop k.toNat (fun i => ((i : Int), colsN T i, startN T i)) rfl (fun i hi => ?_) ?_
  ·have a1 : atS 1 t (i : Int) = some ((cntR T i : Nat) : Int) := atS_some' t3 (by
    rw [t2, List.drop_zero, Nat.sub_zero, List.getElem?_take_of_lt hi]
    exact tabN_get _ (by omega))
   have a2 : atS 1 (⟨true, 1, tabN k.toNat fun i => ((cntR T i : Nat) : Int)⟩ : Sl Int) ((i + 1 : Nat) : Int) = some ((cntR T (i + 1) : Nat) : Int) := atS_some' (.inr rfl) (tabN_get (k := i + 1) _ (by omega))
   have w1 : IntKind.i64.wrap ((i : Int) + 1) = ((i + 1 : Nat) : Int) := w_succ hi (by omega)
   have hcl := cols_len (T := T) i
   have hsl := start_len (T := T) i
   simp only [L2.dcsc_Of_b1, a1, w1, a2, Option.bind_some]
   rw [if_pos (by omega), colsN_succ, startN_succ]
   by_cases hne : neC T i = true
   ·have h1 : cntR T i < cntR T (i + 1) := by simpa [neC] using hne
    rw [if_pos (by omega), app_ok (by simp; unfold bound; omega), app_ok (by simp; unfold bound; omega), if_pos hne, if_pos hne]
    rfl
   ·have h1 : ¬ cntR T i < cntR T (i + 1) := by simpa [neC] using hne
    rw [if_neg (by omega), if_neg hne, if_neg hne, List.append_nil, List.append_nil]
  ·simp only [L2.dcsc_Of_b1]
   rw [if_neg (by omega)]
 rw [q]
 rfl
theorem dcsc_Of_is (h : Is m n k l) : ∃ q, K.dcsc_Of m = some q ∧ IsC q n k (turnL l) := by
 refine ⟨_, dcsc_Of_x h, colV_is h.hn h.hc (by rw [turn_len]; exact h.len) (turn_rises h.r) (fun x hx => ?_) fun x hx => h.v (flip3 x) (turn_mem.1 hx)⟩
 have := h.p _ (turn_mem.1 hx)
 exact ⟨this.2, this.1⟩
theorem div_half {n : Nat} (h : n ≤ 100000) : divO .i64 (n : Int) 2 = some ((n / 2 : Nat) : Int) := by
 unfold divO
 rw [if_pos (by omega), Int.tdiv_eq_ediv_of_nonneg (by omega), wrap64 (by omega) (by omega)]
 rfl
theorem dcsc_find_x (h : IsC c n k T) (y : Int) : (∃ j : Nat, y = (j : Int) ∧ dcsc_find c y = some (((cntR T j : Nat) : Int), ((cntR T (j + 1) : Nat) : Int))) ∨ (rowI T y = [] ∧ dcsc_find c y = some (0, 0)) := by
 have hp := List.pairwise_iff_getElem.1 h.asc
 have hL := h.atLen
 have key : ∀ d a b : Nat, b - a ≤ d → a ≤ b → b ≤ c.2.2.1.l.length → (∀ j (hj : j < c.2.2.1.l.length), j < a → c.2.2.1.l[j] < y) → (∀ j (hj : j < c.2.2.1.l.length), b ≤ j → y < c.2.2.1.l[j]) → (∃ j : Nat, y = (j : Int) ∧ loopO (dcsc_find_b1 c y) (0, 0, (a : Int), (b : Int)) = some (.inl (((cntR T j : Nat) : Int), ((cntR T (j + 1) : Nat) : Int)))) ∨ (y ∉ c.2.2.1.l ∧ loopO (dcsc_find_b1 c y) (0, 0, (a : Int), (b : Int)) = some (.inl (0, 0))) := by
  intro d
  induction d with
  | zero =>
   intro a b hd hab hb h1 h2
   obtain rfl : a = b := by omega
   refine .inr ⟨fun hy => ?_, loopO_done ?_⟩
   ·obtain ⟨j, hj, he⟩ := List.mem_iff_getElem.1 hy
    rcases Nat.lt_or_ge j a with h3 | h3
    ·have := h1 j hj h3; omega
    ·have := h2 j hj h3; omega
   ·simp only [dcsc_find_b1]
    rw [if_neg (by omega)]
  | succ d ih =>
   intro a b hd hab hb h1 h2
   by_cases hlt : a < b
   ·have hmid : (a + b) / 2 < c.2.2.1.l.length := by omega
    have e1 : IntKind.i64.wrap ((a : Int) + (b : Int)) = ((a + b : Nat) : Int) := by rw [wrap64 (by omega) (by omega)]; omega
    have e2 := div_half (n := a + b) (by omega)
    have a1 := atS_some' h.o3 (List.getElem?_eq_getElem hmid)
    have w1 : IntKind.i64.wrap ((((a + b) / 2 : Nat) : Int) + 1) = (((a + b) / 2 + 1 : Nat) : Int) := by rw [wrap64 (by omega) (by omega)]; omega
    by_cases hc : c.2.2.1.l[(a + b) / 2] = y
    ·obtain ⟨jn, j1, j2, j3, j4, j5⟩ := h.at_ge (List.getElem?_eq_getElem hmid)
     refine .inl ⟨jn, by omega, loopO_done ?_⟩
     simp only [dcsc_find_b1]
     rw [if_pos (by omega), e1, e2]
     simp only [Option.bind_some]
     rw [a1]
     simp only [Option.bind_some]
     rw [if_pos hc, atS_some' h.o4 j4, w1, atS_some' h.o4 j5]
     rfl
    by_cases hc2 : c.2.2.1.l[(a + b) / 2] < y
    ·have st : loopO (dcsc_find_b1 c y) (0, 0, (a : Int), (b : Int)) = loopO (dcsc_find_b1 c y) (0, 0, (((a + b) / 2 + 1 : Nat) : Int), (b : Int)) := loopO_step (by
      simp only [dcsc_find_b1]
      rw [if_pos (by omega), e1, e2]
      simp only [Option.bind_some]
      rw [a1]
      simp only [Option.bind_some]
      rw [if_neg hc, if_pos hc2, w1])
     rw [st]
     exact ih ((a + b) / 2 + 1) b (by omega) (by omega) hb (fun j hj hja => by
      by_cases hjm : j = (a + b) / 2
      ·subst hjm; exact hc2
      ·have := hp j ((a + b) / 2) hj hmid (by omega); omega) h2
    ·have st : loopO (dcsc_find_b1 c y) (0, 0, (a : Int), (b : Int)) = loopO (dcsc_find_b1 c y) (0, 0, (a : Int), (((a + b) / 2 : Nat) : Int)) := loopO_step (by
      simp only [dcsc_find_b1]
      rw [if_pos (by omega), e1, e2]
      simp only [Option.bind_some]
      rw [a1]
      simp only [Option.bind_some]
      rw [if_neg hc, if_neg hc2])
     rw [st]
     exact ih a ((a + b) / 2) (by omega) (by omega) (by omega) h1 (fun j hj hja => by
      by_cases hjm : j = (a + b) / 2
      ·subst hjm; omega
      ·have := hp ((a + b) / 2) j hmid hj (by omega); omega)
   ·obtain rfl : a = b := by omega
    exact ih a a (by omega) hab hb h1 h2
 rw [dcsc_find_eq]
 rcases key c.2.2.1.l.length 0 c.2.2.1.l.length (by omega) (by omega) (Nat.le_refl _) (fun j _ h => by omega) (fun j hj h => by omega) with ⟨j, q1, q2⟩ | ⟨q1, q2⟩
 ·refine .inl ⟨j, q1, ?_⟩
  rw [show ((0 : Int), (0 : Int), (0 : Int), (c.2.2.1.l.length : Int)) = (0, 0, ((0 : Nat) : Int), (c.2.2.1.l.length : Int)) from rfl, q2]
  rfl
 ·refine .inr ⟨?_, ?_⟩
  ·rw [h.mem_iff] at q1
   exact Classical.not_not.1 q1
  ·rw [show ((0 : Int), (0 : Int), (0 : Int), (c.2.2.1.l.length : Int)) = (0, 0, ((0 : Nat) : Int), (c.2.2.1.l.length : Int)) from rfl, q2]
   rfl
theorem dcsc_find_is (h : IsC c n k T) (y : Int) : ∃ f t : Nat, dcsc_find c y = some ((f : Int), (t : Int)) ∧ f ≤ t ∧ t ≤ T.length ∧ (T.drop f).take (t - f) = rowI T y ∧ t - f = (rowI T y).length := by
 rcases dcsc_find_x h y with ⟨j, rfl, e⟩ | ⟨e1, e2⟩
 ·have := cnt_succ T j
  refine ⟨_, _, e, by omega, cntR_le _ _, ?_, by omega⟩
  rw [(row_cut h.r j).2, rowI_nat]
 ·exact ⟨0, 0, e2, by omega, by omega, by simp [e1], by simp [e1]⟩
theorem IsC.at_ro (h : IsC c n k T) {i : Nat} (hi : i < T.length) : atS 1 c.2.2.2.2.1 (i : Int) = some T[i].2.1 := atS_some' h.o5 (by rw [h.e5, List.getElem?_map, List.getElem?_eq_getElem hi]; rfl)
theorem IsC.at_va (h : IsC c n k T) {i : Nat} (hi : i < T.length) : atS 1 c.2.2.2.2.2 (i : Int) = some T[i].2.2 := atS_some' h.o6 (by rw [h.e6, List.getElem?_map, List.getElem?_eq_getElem hi]; rfl)
theorem cap_zero {n : Nat} (h : n ≤ 1000000) : capOk 0 (n : Int) = some () := by
 unfold capOk
 split <;> first | rfl | (rw [if_pos ⟨by omega, by unfold bound; omega⟩])
theorem take_snoc {α : Type} {l : List α} {a b i : Nat} (hb : b ≤ l.length) (hi : a + i < b) : ((l.drop a).take (i + 1)) = (l.drop a).take i ++ [l[a + i]] := by
 rw [List.take_add_one, List.getElem?_drop, List.getElem?_eq_getElem (by omega)]
 rfl
theorem dcsc_Column_is (h : IsC c n k T) (y : Int) : dcsc_Column c y = some ((rowI T y).map pr2) := by
 obtain ⟨f, t, e, h1, h2, h3, h4⟩ := dcsc_find_is h y
 have hlen := h.len
 rw [dcsc_Column_eq, dcsc_sure_is h]
 simp only [Option.bind_some]
 rw [e]
 simp only [Option.bind_some]
 rw [show IntKind.i64.wrap ((t : Int) - (f : Int)) = ((t - f : Nat) : Int) by rw [wrap64 (by omega) (by omega)]; omega, cap_zero (by omega), show lenOk 0 = some () from len_ok (n := 0) (by omega)]
 simp only [Option.bind_some]
 have q : loopO (dcsc_Column_b1 c ((f : Int), (t : Int))) (List.replicate (Int.toNat 0) (0, 0), (f : Int)) = some (.inl ((rowI T y).map pr2)) := by
  rw [← h3]
  refine loop_stop (t - f) (fun i => (((T.drop f).take i).map pr2, ((f + i : Nat) : Int))) ?_ (fun i hi => ?_) ?_
  ·simp
  ·have a1 := h.at_ro (i := f + i) (by omega)
   have a2 := h.at_va (i := f + i) (by omega)
   simp only [dcsc_Column_b1, a1, a2, Option.bind_some]
   rw [if_pos (by omega), app_ok (by simp; unfold bound; omega), wrap64 (by omega) (by omega), take_snoc h2 (by omega), List.map_append]
   rfl
  ·simp only [dcsc_Column_b1]
   rw [if_neg (by omega)]
 rw [q]
 rfl
theorem dcsc_Count_is (h : IsC c n k T) : dcsc_Count c = some (T.length : Int) := by
 rw [dcsc_Count_eq, dcsc_sure_is h]
 simp only [Option.bind_some]
 rw [h.e6, List.length_map]
theorem IsC.back1 (h : IsC c n k T) : loopO (dcsc_Back_b1 c) (0, tabN k.toNat fun _ => 0) = some (.inl (tabN k.toNat fun x => if ((x : Int) - 1) ∈ c.2.2.1.l then ((cntR T x : Nat) : Int) else 0)) := by
 have hL := h.atLen
 have hk := h.hk
 have e : (fun x : Nat => if ((x : Int) - 1) ∈ c.2.2.1.l then ((cntR T x : Nat) : Int) else 0) = fun x : Nat => if ((x : Int) - 1) ∈ c.2.2.1.l.take c.2.2.1.l.length then ((cntR T x : Nat) : Int) else 0 := by rw [List.take_length]
 rw [e]
 refine loop_stop c.2.2.1.l.length (fun i => ((i : Int), tabN k.toNat fun x : Nat => if ((x : Int) - 1) ∈ c.2.2.1.l.take i then ((cntR T x : Nat) : Int) else 0)) ?_ (fun i hi => ?_) ?_
 ·simp
 ·obtain ⟨jn, j1, j2, j3, j4, j5⟩ := h.at_ge (List.getElem?_eq_getElem hi)
  have a1 := atS_some' h.o3 (List.getElem?_eq_getElem hi)
  rw [j1] at a1
  have w1 : IntKind.i64.wrap ((i : Int) + 1) = ((i + 1 : Nat) : Int) := w_succ hi (by omega)
  have w2 : IntKind.i64.wrap ((jn : Int) + 1) = ((jn + 1 : Nat) : Int) := w_succ (n := 4097) (by omega) (by omega)
  have a2 := atS_some' h.o4 j5
  have a3 := atL_some' (tabN_get (n := k.toNat) (k := jn + 1) (fun x : Nat => if ((x : Int) - 1) ∈ c.2.2.1.l.take i then ((cntR T x : Nat) : Int) else 0) (by omega))
  simp only [dcsc_Back_b1, a1, w1, a2, w2, Option.bind_some, a3]
  rw [if_pos (by omega), Int.toNat_natCast, tabN_set _ _ (by omega)]
  refine congrArg some (congrArg Sum.inl (Prod.ext rfl (tabN_congr fun x hx => ?_)))
  rw [List.take_succ_eq_append_getElem hi, j1]
  by_cases hxe : x = jn + 1
  ·subst hxe
   rw [if_pos rfl, if_pos (List.mem_append_right _ (by simp))]
  ·rw [if_neg hxe]
   have : (((x : Int) - 1) ∈ c.2.2.1.l.take i ++ [(jn : Int)]) ↔ ((x : Int) - 1) ∈ c.2.2.1.l.take i := by
    rw [List.mem_append, List.mem_singleton]
    constructor
    ·rintro (h | h)
     ·exact h
     ·omega
    ·exact .inl
   by_cases hm : ((x : Int) - 1) ∈ c.2.2.1.l.take i
   ·rw [if_pos hm, if_pos (this.2 hm)]
   ·rw [if_neg hm, if_neg (fun h => hm (this.1 h))]
 ·simp only [dcsc_Back_b1]
  rw [if_neg (by omega)]
theorem IsC.back2 (h : IsC c n k T) : loopO (dcsc_Back_b2 c) (0, tabN k.toNat fun x : Nat => if ((x : Int) - 1) ∈ c.2.2.1.l then ((cntR T x : Nat) : Int) else 0) = some (.inl (tabN k.toNat fun x => ((cntR T x : Nat) : Int))) := by
 have hk := h.hk
 refine loop_stop k.toNat (fun i => ((i : Int), tabN k.toNat fun x : Nat => if x ≤ i then ((cntR T x : Nat) : Int) else if ((x : Int) - 1) ∈ c.2.2.1.l then ((cntR T x : Nat) : Int) else 0)) ?_ (fun i hi => ?_) ?_
 ·refine congrArg (fun z => ((0 : Int), z)) (tabN_congr fun x hx => ?_)
  by_cases h0 : x ≤ 0
  ·obtain rfl : x = 0 := by omega
   rw [if_pos h0, cnt_zero h.h0]
   simp
  ·rw [if_neg h0]
 ·have w1 : IntKind.i64.wrap ((i : Int) + 1) = ((i + 1 : Nat) : Int) := w_succ hi (by omega)
  have g : ∀ x, x ≤ k.toNat → atL (tabN k.toNat fun x : Nat => if x ≤ i then ((cntR T x : Nat) : Int) else if ((x : Int) - 1) ∈ c.2.2.1.l then ((cntR T x : Nat) : Int) else 0) (x : Int) = some (if x ≤ i then ((cntR T x : Nat) : Int) else if ((x : Int) - 1) ∈ c.2.2.1.l then ((cntR T x : Nat) : Int) else 0) := fun x hx => atL_some' (tabN_get _ hx)
  simp only [dcsc_Back_b2]
  rw [h.e2, if_pos (by omega), w1, g (i + 1) (by omega), g i (by omega)]
  simp only [Option.bind_some]
  rw [Int.toNat_natCast, tabN_set _ _ (by omega), maxI_eq]
  refine congrArg some (congrArg Sum.inl (Prod.ext rfl (tabN_congr fun x hx => ?_)))
  by_cases hxe : x = i + 1
  ·subst hxe
   rw [if_pos rfl, if_neg (by omega), if_pos (Nat.le_refl _), if_pos (Nat.le_refl _)]
   have hc := cnt_succ T i
   have hm := h.mem_iff (j := (i : Int))
   rw [show ((i + 1 : Nat) : Int) - 1 = (i : Int) by omega]
   by_cases hr : rowI T (i : Int) = []
   ·rw [if_neg (fun hh => hm.1 hh hr)]
    rw [hr] at hc
    simp only [List.length_nil] at hc
    omega
   ·rw [if_pos (hm.2 hr)]
    omega
  ·rw [if_neg hxe]
   by_cases hxi : x ≤ i
   ·rw [if_pos hxi, if_pos (show x ≤ i + 1 by omega)]
   ·rw [if_neg hxi, if_neg (show ¬ x ≤ i + 1 by omega)]
 ·simp only [dcsc_Back_b2]
  rw [h.e2, if_neg (by omega)]
  refine congrArg some (congrArg Sum.inr (congrArg Sum.inl (tabN_congr fun x hx => ?_)))
  rw [if_pos hx]
theorem IsC.rows (h : IsC c n k T) : Is (k, n, (⟨true, 1, tabN k.toNat fun x => ((cntR T x : Nat) : Int)⟩ : Sl Int), c.2.2.2.2) k n T := ⟨h.hk, h.hn, h.len, h.r, h.p, h.v, rfl, rfl, rfl, h.e5, h.e6, .inr rfl, h.o5, h.o6⟩
theorem dcsc_Back_x (h : IsC c n k T) : dcsc_Back c = some (n, k, ⟨true, 1, tabN n.toNat fun i => ((cntR (turnL T) i : Nat) : Int)⟩, ⟨true, 1, (turnL T).map (·.2.1)⟩, ⟨true, 1, (turnL T).map (·.2.2)⟩) := by
 have hk := h.hk
 rw [dcsc_Back_eq, dcsc_sure_is h]
 simp only [Option.bind_some]
 rw [h.e2, h.e1, wrap64 (n := k + 1) (by omega) (by omega), capOk_self, len_one hk]
 simp only [Option.bind_some]
 rw [show (k + 1).toNat = k.toNat + 1 by omega, tabN_zero, h.back1]
 simp only [Option.bind_some, Sum.elim_inl]
 rw [h.back2]
 simp only [Option.bind_some, Sum.elim_inl]
 rw [csr_Turn_x h.rows]
 simp only [Option.bind_some]
 rw [show (tabN n.toNat fun i => ((cntR (T.map flip3) i : Nat) : Int)) = tabN n.toNat fun i => ((cntR (turnL T) i : Nat) : Int) from tabN_congr fun i _ => by rw [cnt_turn]]
end
end Ev
end Go.Proofs.Ytlkcneneagifoaa
end
section
namespace Go.Proofs.Ytlkcneneagifoaa
namespace Ev
open Go Sm
set_option linter.unusedVariables false
set_option linter.unusedSimpArgs false
section
variable {m : Mx} {n c : Int} {l : List E3}
theorem csr_Row_is (h : Is m n c l) (i : Int) : csr_Row m i = some ((rowI l i).map pr2) := by
 obtain ⟨s, t, e1, e2, e3, e4, e5⟩ := csr_row_is h i
 have hlen := h.len
 have hl2 := rowI_len l i
 rw [csr_Row_eq, csr_sure_is h, Option.bind_some, e1, Option.bind_some, e2, List.length_map, capOk_self, Option.bind_some, len_ok (by omega), Option.bind_some, Int.toNat_natCast]
 have q : loopO (csr_Row_b1 (s, t)) (0, List.replicate (rowI l i).length (0, 0)) = some (.inl ((rowI l i).map pr2)) := by
  refine loop_stop (rowI l i).length (fun j => (((j : Nat) : Int), ((rowI l i).take j).map pr2 ++ List.replicate ((rowI l i).length - j) (0, 0))) (by simp) (fun j hj => ?_) ?_
  ·have g := List.getElem?_eq_getElem hj
   have a1 := atS_some' e4 (show s.l[j]? = some (rowI l i)[j].2.1 by rw [e2, List.getElem?_map, g]; rfl)
   have a2 := atS_some' e5 (show t.l[j]? = some (rowI l i)[j].2.2 by rw [e3, List.getElem?_map, g]; rfl)
   have hlt : (((rowI l i).take j).map pr2).length = j := by rw [List.length_map, List.length_take]; omega
   have hr : List.replicate ((rowI l i).length - j) ((0, 0) : Int × Int) = (0, 0) :: List.replicate ((rowI l i).length - (j + 1)) (0, 0) := by
    rw [show (rowI l i).length - j = ((rowI l i).length - (j + 1)) + 1 by omega]; rfl
   have a3 : atL (((rowI l i).take j).map pr2 ++ List.replicate ((rowI l i).length - j) (0, 0)) (j : Int) = some (0, 0) := atL_some' (by rw [List.getElem?_append_right (by omega), hlt, hr, Nat.sub_self]; rfl)
   simp only [csr_Row_b1]
   rw [if_pos (by rw [e2, List.length_map]; omega), a1]
   simp only [Option.bind_some, a2, a3, w_succ hj (by omega), Int.toNat_natCast]
   rw [List.set_append_right _ _ (by omega), hlt, Nat.sub_self, hr, List.take_succ_eq_append_getElem hj, List.map_append, List.append_assoc]
   rfl
  ·simp only [csr_Row_b1]
   rw [if_neg (by rw [e2, List.length_map]; omega), List.take_length, Nat.sub_self]
   simp
 rw [q]; rfl
end
end Ev
end Go.Proofs.Ytlkcneneagifoaa
end
section
namespace Go.Proofs.Ytlkcneneagifoaa
namespace Ev
open Go Sm
set_option linter.unusedVariables false
set_option linter.unusedSimpArgs false
theorem same_rows {α : Type} [DecidableEq α] {x y : Sl α} (hl : x.l.length ≤ 9223372036854775806) {w : Nat} (hx : okS w x) (hy : okS w y) {b : Int → Option (Int ⊕ PUnit ⊕ Bool ⊕ Empty)} {P : α → α → Prop} [∀ u v, Decidable (P u v)] (hP : ∀ u v, P u v ↔ u = v)
  (hb : ∀ a, b a = if a < (x.l.length : Int) then (atS w x a).bind fun u => (atS w y a).bind fun v => if ¬ P u v then some (.inr (.inr (.inl false))) else some (.inl (IntKind.i64.wrap (a + 1))) else some (.inr (.inl ()))) :
  (if (x.l.length : Int) ≠ (y.l.length : Int) then some false else (loopO b 0).bind fun (y : PUnit ⊕ Bool ⊕ Empty) => Sum.elim (fun _ => some true) (fun v => Sum.elim (fun v => some v) (fun v => nE v) v) y) = some (decide (x.l = y.l)) := by
 refine same_slice hl hx hy fun a => ?_
 rw [hb]
 by_cases h : a < (x.l.length : Int)
 ·rw [if_pos h, if_pos h]
  cases atS w x a with
  | none => rfl
  | some u =>
   cases atS w y a with
   | none => rfl
   | some v =>
    simp only [Option.bind_some]
    by_cases he : u = v
    ·rw [if_neg (fun hh => hh ((hP u v).2 he)), if_neg (fun hh => hh he)]
    ·rw [if_pos (fun hh => he ((hP u v).1 hh)), if_pos he]
 ·rw [if_neg h, if_neg h]
theorem SameItems_w {x y : Sl (Int × Int)} (hl : x.l.length ≤ 9223372036854775806) (hx : okS 2 x) (hy : okS 2 y) : ref07_SameItems x y = some (decide (x.l = y.l)) := by
 rw [ref07_SameItems_eq]
 exact same_rows hl hx hy (P := fun u v => u.fst = v.fst ∧ u.snd = v.snd) (fun u v => Prod.ext_iff.symm) fun a => by unfold ref07_SameItems_b1; rfl
section
variable {m m' : Mx} {n c : Int} {l : List E3}
end
end Ev
end Go.Proofs.Ytlkcneneagifoaa
end
section
namespace Go.Proofs.Ytlkcneneagifoaa
namespace Ev
open Go Sm
set_option linter.unusedVariables false
set_option linter.unusedSimpArgs false
section
variable {m : Mx} {n k : Int} {l T : List E3} {c : Cx}
theorem take_cnt (h : rises T) (j : Nat) : T.take (cntR T (j + 1)) = T.take (cntR T j) ++ rowI T (j : Int) := by
 obtain ⟨h1, h2⟩ := row_cut h j
 rw [rowI_nat, ← h2, show cntR T (j + 1) = cntR T j + (cntR T (j + 1) - cntR T j) by omega, List.take_add, show cntR T j + (cntR T (j + 1) - cntR T j) - cntR T j = cntR T (j + 1) - cntR T j by omega]
def firstC (c : Cx) (T : List E3) (i : Nat) : List E3 := T.take (c.2.2.2.1.l.getD i 0).toNat
theorem IsC.first (h : IsC c n k T) {i : Nat} (hi : i < c.2.2.1.l.length) : ∃ f t j : Nat, c.2.2.1.l[i] = (j : Int) ∧ atS 1 c.2.2.1 (i : Int) = some (j : Int) ∧ atS 1 c.2.2.2.1 (i : Int) = some (f : Int) ∧ atS 1 c.2.2.2.1 ((i + 1 : Nat) : Int) = some (t : Int) ∧ f ≤ t ∧ t ≤ T.length ∧ (T.drop f).take (t - f) = rowI T (j : Int) ∧ firstC c T (i + 1) = firstC c T i ++ rowI T (j : Int) ∧ t - f = (rowI T (j : Int)).length := by
 obtain ⟨jn, j1, j2, j3, j4, j5⟩ := h.at_ge (List.getElem?_eq_getElem hi)
 have hc := cnt_succ T jn
 refine ⟨_, _, jn, j1, by rw [atS_some' h.o3 (List.getElem?_eq_getElem hi), j1], atS_some' h.o4 j4, atS_some' h.o4 j5, by omega, cntR_le _ _, by rw [(row_cut h.r jn).2, rowI_nat], ?_, by omega⟩
 unfold firstC
 rw [getD_some j4, getD_some j5, Int.toNat_natCast, Int.toNat_natCast, take_cnt h.r]
theorem row_get (h : IsC c n k T) {f t j x : Nat} (ht : t ≤ T.length) (hr : (T.drop f).take (t - f) = rowI T (j : Int)) (hx : f + x < t) : (T[f + x]'(by omega)).1 = (j : Int) := by
 have : T[f + x]'(by omega) ∈ rowI T (j : Int) := by
  rw [← hr]
  refine List.mem_iff_getElem?.2 ⟨x, ?_⟩
  rw [List.getElem?_take_of_lt (by omega), List.getElem?_drop, List.getElem?_eq_getElem (by omega)]
 exact (rowI_fst this).2
end
theorem m0_is : Is ((2 : Int), (1000 : Int), (⟨true, 1, [0, 0, 1]⟩ : Sl Int), (⟨true, 1, [700]⟩ : Sl Int), (⟨true, 1, [4]⟩ : Sl Int)) 2 1000 [(1, 700, 4)] :=
 ⟨by omega, by omega, by simp, by simp, by simp, by simp [i64r], rfl, rfl, by decide, rfl, rfl, .inr rfl, .inr rfl, .inr rfl⟩
theorem t0_eq : turnL [((1 : Int), (700 : Int), (4 : Int))] = [(700, 1, 4)] := by unfold turnL; simp [flip3]
theorem cnt0 (j : Nat) : cntR [((700 : Int), (1 : Int), (4 : Int))] j = if 700 < j then 1 else 0 := by
 unfold cntR
 rw [List.countP_cons, List.countP_nil]
 by_cases h : 700 < j
 ·rw [if_pos (by simp; omega), if_pos h]
 ·rw [if_neg (by simp; omega), if_neg h]
theorem ne0 (j : Nat) : neC [((700 : Int), (1 : Int), (4 : Int))] j = true ↔ j = 700 := by
 unfold neC
 rw [cnt0, cnt0, decide_eq_true_eq]
 split <;> split <;> omega
theorem cols0 : colsN [((700 : Int), (1 : Int), (4 : Int))] 1000 = [700] := by
 refine asc_ext (cols_asc _) (by simp) fun x => ?_
 rw [cols_mem, List.mem_singleton]
 constructor
 ·rintro ⟨j, rfl, _, h2⟩
  have := (ne0 j).1 h2
  omega
 ·rintro rfl
  exact ⟨700, rfl, by omega, (ne0 700).2 rfl⟩
theorem start0 : startN [((700 : Int), (1 : Int), (4 : Int))] 1000 = [0, 1] := by
 have h := (start_at (T := [((700 : Int), (1 : Int), (4 : Int))]) (by simp) 1000 0 700 (by rw [cols0]; rfl)).2
 have hl := start_len (T := [((700 : Int), (1 : Int), (4 : Int))]) 1000
 rw [cols0] at hl
 rw [cnt0, cnt0] at h
 refine List.ext_getElem? fun i => ?_
 rcases i with _ | _ | i
 ·exact h.1
 ·exact h.2
 ·rw [List.getElem?_eq_none (by rw [hl]; simp), List.getElem?_eq_none (by simp)]
theorem L_Of_m0 : K.dcsc_Of ((2 : Int), (1000 : Int), (⟨true, 1, [0, 0, 1]⟩ : Sl Int), (⟨true, 1, [700]⟩ : Sl Int), (⟨true, 1, [4]⟩ : Sl Int)) = some ((2 : Int), (1000 : Int), (⟨true, 1, [700]⟩ : Sl Int), (⟨true, 1, [0, 1]⟩ : Sl Int), (⟨true, 1, [1]⟩ : Sl Int), (⟨true, 1, [4]⟩ : Sl Int)) := by
 rw [dcsc_Of_x m0_is, t0_eq]
 unfold colV
 rw [show (1000 : Int).toNat = 1000 from rfl, cols0, start0]
 rfl
theorem c0_is : IsC ((2 : Int), (1000 : Int), (⟨true, 1, [700]⟩ : Sl Int), (⟨true, 1, [0, 1]⟩ : Sl Int), (⟨true, 1, [1]⟩ : Sl Int), (⟨true, 1, [4]⟩ : Sl Int)) 2 1000 [(700, 1, 4)] :=
 ⟨by omega, by omega, by simp, by simp, by simp, by simp [i64r], rfl, rfl, cols0.symm, start0.symm, rfl, rfl, .inr rfl, .inr rfl, .inr rfl, .inr rfl⟩
theorem t1_eq : turnL [((700 : Int), (1 : Int), (4 : Int))] = [(1, 700, 4)] := by unfold turnL; simp [flip3]
theorem L_Back_c0 : K.dcsc_Back ((2 : Int), (1000 : Int), (⟨true, 1, [700]⟩ : Sl Int), (⟨true, 1, [0, 1]⟩ : Sl Int), (⟨true, 1, [1]⟩ : Sl Int), (⟨true, 1, [4]⟩ : Sl Int)) = some ((2 : Int), (1000 : Int), (⟨true, 1, [0, 0, 1]⟩ : Sl Int), (⟨true, 1, [700]⟩ : Sl Int), (⟨true, 1, [4]⟩ : Sl Int)) := by
 refine (dcsc_Back_x c0_is).trans ?_
 rw [t1_eq]
 rfl
end Ev
end Go.Proofs.Ytlkcneneagifoaa
end
section
namespace Go.Proofs.Ytlkcneneagifoaa
namespace Ev
namespace K
open Go Go.RowKit
set_option linter.unusedVariables false
set_option linter.unusedSimpArgs false
set_option maxRecDepth 100000
set_option maxHeartbeats 1000000
theorem dcsc_Of_m0 : dcsc_Of ((2 : Int), (1000 : Int), (⟨true, 1, [0, 0, 1]⟩ : Sl Int), (⟨true, 1, [700]⟩ : Sl Int), (⟨true, 1, [4]⟩ : Sl Int)) = some ((2 : Int), (1000 : Int), (⟨true, 1, [700]⟩ : Sl Int), (⟨true, 1, [0, 1]⟩ : Sl Int), (⟨true, 1, [1]⟩ : Sl Int), (⟨true, 1, [4]⟩ : Sl Int)) := L_Of_m0
theorem dcsc_Back_c0 : dcsc_Back ((2 : Int), (1000 : Int), (⟨true, 1, [700]⟩ : Sl Int), (⟨true, 1, [0, 1]⟩ : Sl Int), (⟨true, 1, [1]⟩ : Sl Int), (⟨true, 1, [4]⟩ : Sl Int)) = some ((2 : Int), (1000 : Int), (⟨true, 1, [0, 0, 1]⟩ : Sl Int), (⟨true, 1, [700]⟩ : Sl Int), (⟨true, 1, [4]⟩ : Sl Int)) := L_Back_c0
theorem runs_of {E : Env} {k : FuncId} {ins ts : List TyD} {f : vals ins → Option (vals ts)} {d n N : Nat} (ok : EntryOk E ⟨k, ins, .data true ts, f, d⟩) (hn : n + d = N) {a : vals ins} {out : vals ts} (h : f a = some out) {x y : List TD} (hx : x = tdsOf ins a) (hy : y = tdsOf ts out) : RunsP E N k x (.fresh, y) := by
 subst hx hy hn
 exact ok n a out h
theorem runV46 : RunsP E1 60 46 [.agg [.v (.int .i64 2), .v (.int .i64 1000), .s true 1 [[.v (.int .i64 0)], [.v (.int .i64 0)], [.v (.int .i64 1)]], .s true 1 [[.v (.int .i64 700)]], .s true 1 [[.v (.int .i64 4)]]]] (.fresh, [.agg [.v (.int .i64 2), .v (.int .i64 1000), .s true 1 [[.v (.int .i64 700)]], .s true 1 [[.v (.int .i64 0)], [.v (.int .i64 1)]], .s true 1 [[.v (.int .i64 1)]], .s true 1 [[.v (.int .i64 4)]]]]) := runs_of (n := 44) dcsc_Of_ok rfl dcsc_Of_m0 rfl rfl
theorem runV50 : RunsP E1 60 50 [.agg [.v (.int .i64 2), .v (.int .i64 1000), .s true 1 [[.v (.int .i64 700)]], .s true 1 [[.v (.int .i64 0)], [.v (.int .i64 1)]], .s true 1 [[.v (.int .i64 1)]], .s true 1 [[.v (.int .i64 4)]]]] (.fresh, [.agg [.v (.int .i64 2), .v (.int .i64 1000), .s true 1 [[.v (.int .i64 0)], [.v (.int .i64 0)], [.v (.int .i64 1)]], .s true 1 [[.v (.int .i64 700)]], .s true 1 [[.v (.int .i64 4)]]]]) := runs_of (n := 44) dcsc_Back_ok rfl dcsc_Back_c0 rfl rfl
theorem axV_ok : AxOk Try.prog axV := axOk_add (axOk_add inlAx_ok (memV runV46 entV46)) (memV runV50 entV50)
theorem EV_ok : EV.Ok := envOf_ok mixed0 names0 axV_ok
theorem liveV_ax : ∀ vs kind rs, liveF vs = some (kind, rs) → PureOk Try.prog 42 vs kind rs ∧ Ev.Enters Try.prog 42 := fun vs kind rs hf => by
 unfold liveF at hf
 split at hf
 ·simp only [Option.some.injEq, Prod.mk.injEq] at hf
  obtain ⟨rfl, rfl⟩ := hf
  exact (callers_ok EV_ok 300 60).1 _ _ _ _ liveV
 ·simp at hf
end K
end Ev
end Go.Proofs.Ytlkcneneagifoaa
end
