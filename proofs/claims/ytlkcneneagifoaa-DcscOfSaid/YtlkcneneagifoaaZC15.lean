/- Texts of a claim, joined. -/
import Derived.Test.YtlkcneneagifoaaZC14
import Derived.Test.YtlkcneneagifoaaZC12
import Derived.Test.YtlkcneneagifoaaZC13
set_option linter.unusedVariables false
set_option linter.unusedSimpArgs false
section
namespace Go.Proofs.Ytlkcneneagifoaa
namespace Ev
open Go Sm
set_option linter.unusedVariables false
set_option linter.unusedSimpArgs false
def pr2 (x : E3) : Int × Int := (x.2.1, x.2.2)
section
variable {m : Mx} {n c : Int} {l : List E3}
theorem Is.at_st (h : Is m n c l) {k : Nat} (hk : k ≤ n.toNat) : atS 1 m.2.2.1 (k : Int) = some ((cntR l k : Nat) : Int) := atS_some' h.o3 (show m.2.2.1.l[k]? = some _ by rw [h.e3]; exact tabN_get _ hk)
theorem Is.at_co (h : Is m n c l) {i : Nat} (hi : i < l.length) : atS 1 m.2.2.2.1 (i : Int) = some l[i].2.1 := atS_some' h.o4 (by rw [h.e4, List.getElem?_map, List.getElem?_eq_getElem hi]; rfl)
theorem Is.at_va (h : Is m n c l) {i : Nat} (hi : i < l.length) : atS 1 m.2.2.2.2 (i : Int) = some l[i].2.2 := atS_some' h.o5 (by rw [h.e5, List.getElem?_map, List.getElem?_eq_getElem hi]; rfl)
theorem row_part (h : Is m n c l) (k : Nat) : cntR l k ≤ cntR l (k + 1) ∧ cntR l (k + 1) ≤ l.length ∧ (l.drop (cntR l k)).take (cntR l (k + 1) - cntR l k) = rowI l (k : Int) := by
 obtain ⟨c1, c2⟩ := row_cut h.r k
 exact ⟨c1, cntR_le _ _, by rw [c2, rowI_nat]⟩
theorem part_get {a b j : Nat} (hb : b ≤ l.length) (hj : a + j < b) : ((l.drop a).take (b - a))[j]? = some (l[a + j]'(by omega)) := by
 rw [List.getElem?_take, if_pos (by omega), List.getElem?_drop, List.getElem?_eq_getElem (by omega)]
theorem ref07_Row_is (h : Is m n c l) (i : Int) : ref07_Row m i = some ((rowI l i).map pr2) := by
 rw [ref07_Row_eq, ref07_Sure_is h, Option.bind_some]
 by_cases h0 : i < 0
 ·have hr : rowI l i = [] := rowI_none fun x hx he => by have := (h.p x hx).1; omega
  rw [if_pos h0, hr]; rfl
 ·by_cases h1 : i ≥ n
  ·have hr : rowI l i = [] := rowI_none fun x hx he => by have := (h.p x hx).1; omega
   rw [if_neg h0, h.e1, if_pos h1, hr]; rfl
  ·obtain ⟨k, rfl⟩ := Int.eq_ofNat_of_zero_le (by omega : 0 ≤ i)
   have hk : k < n.toNat := by omega
   have hn := h.hn
   have hlen := h.len
   obtain ⟨p1, p2, p3⟩ := row_part h k
   have w1 : IntKind.i64.wrap ((k : Int) + 1) = ((k + 1 : Nat) : Int) := w_succ (n := n.toNat) hk (by omega)
   have hpl : (rowI l (k : Int)).length = cntR l (k + 1) - cntR l k := by rw [← p3, List.length_take, List.length_drop]; omega
   rw [if_neg h0, h.e1, if_neg h1, h.at_st (by omega), Option.bind_some]
   have q : loopO (ref07_Row_b1 (k : Int) m) ([], ((cntR l k : Nat) : Int)) = some (.inl ((rowI l (k : Int)).map pr2)) := by
    refine loop_stop (rowI l (k : Int)).length (fun j => (((rowI l (k : Int)).take j).map pr2, ((cntR l k + j : Nat) : Int))) rfl (fun j hj => ?_) ?_
    ·have hlt : cntR l k + j < l.length := by omega
     have g : (rowI l (k : Int))[j]? = some l[cntR l k + j] := by rw [← p3]; exact part_get p2 (by omega)
     have g2 : (rowI l (k : Int))[j] = l[cntR l k + j] := by rw [List.getElem?_eq_getElem hj] at g; exact Option.some.inj g
     have hl2 := rowI_len l (k : Int)
     simp only [ref07_Row_b1]
     rw [w1, h.at_st (by omega), Option.bind_some, if_pos (by omega), h.at_co hlt, Option.bind_some, h.at_va hlt, Option.bind_some, app_ok (by simp [bound]; omega), Option.bind_some, wrap64 (by omega) (by omega), List.take_succ_eq_append_getElem hj, List.map_append, g2]
     rfl
    ·simp only [ref07_Row_b1]
     rw [w1, h.at_st (by omega), Option.bind_some, if_neg (by omega), List.take_length]
   rw [q]; rfl
theorem ref07_Triples_is (h : Is m n c l) : ref07_Triples m = some l := by
 have hn := h.hn
 have hlen := h.len
 rw [ref07_Triples_eq, ref07_Sure_is h, Option.bind_some]
 have q : loopO (ref07_Triples_b2 m) ([], 0) = some (.inl l) := by
  refine loop_stop n.toNat (fun j => (belR l (j : Int), ((j : Nat) : Int))) (by rw [show ((0 : Nat) : Int) = 0 from rfl, belR_none fun x hx => (h.p x hx).1.1]) (fun k hk => ?_) ?_
  ·obtain ⟨p1, p2, p3⟩ := row_part h k
   have w1 : IntKind.i64.wrap ((k : Int) + 1) = ((k + 1 : Nat) : Int) := w_succ (n := n.toNat) hk (by omega)
   have hpl : (rowI l (k : Int)).length = cntR l (k + 1) - cntR l k := by rw [← p3, List.length_take, List.length_drop]; omega
   have hb := belR_len l (k : Int)
   have q : loopO (ref07_Triples_b1 m (belR l (k : Int), (k : Int))) (belR l (k : Int), ((cntR l k : Nat) : Int)) = some (.inl (belR l (k : Int) ++ rowI l (k : Int))) := by
    refine loop_stop (rowI l (k : Int)).length (fun j => (belR l (k : Int) ++ (rowI l (k : Int)).take j, ((cntR l k + j : Nat) : Int))) (by simp) (fun j hj => ?_) ?_
    ·have hlt : cntR l k + j < l.length := by omega
     have g : (rowI l (k : Int))[j]? = some l[cntR l k + j] := by rw [← p3]; exact part_get p2 (by omega)
     have g2 : (rowI l (k : Int))[j] = l[cntR l k + j] := by rw [List.getElem?_eq_getElem hj] at g; exact Option.some.inj g
     have g3 : l[cntR l k + j].1 = (k : Int) := by rw [← g2]; exact (rowI_fst (List.getElem_mem hj)).2
     have hl2 := rowI_len l (k : Int)
     simp only [ref07_Triples_b1]
     rw [w1, h.at_st (by omega), Option.bind_some, if_pos (by omega), h.at_co hlt, Option.bind_some, h.at_va hlt, Option.bind_some, app_ok (by simp [bound]; omega), Option.bind_some, wrap64 (by omega) (by omega), List.take_succ_eq_append_getElem hj, g2, ← g3, List.append_assoc]
     rfl
    ·simp only [ref07_Triples_b1]
     rw [w1, h.at_st (by omega), Option.bind_some, if_neg (by omega), List.take_length]
   simp only [ref07_Triples_b2]
   rw [h.e1, if_pos (by omega), h.at_st (by omega), Option.bind_some, q, Option.bind_some]
   simp only [Sum.elim_inl]
   rw [w1, belR_succ h.r]
  ·simp only [ref07_Triples_b2]
   rw [h.e1, if_neg (by omega), belR_all fun x hx => by have := (h.p x hx).1; omega]
 rw [q]; rfl
theorem row_turn (h : rises l) (k : Int) : (l.filter fun x => decide (x.2.1 = k)).map flip3 = rowI (turnL l) k := by
 refine rises_ext ?_ ((turn_rises h).sublist List.filter_sublist) fun x => ?_
 ·rw [rises, List.pairwise_map]
  refine (h.sublist List.filter_sublist).imp_of_mem fun {a b} ha hb hab => ?_
  have h1 : a.2.1 = k := by simpa using (List.mem_filter.1 ha).2
  have h2 : b.2.1 = k := by simpa using (List.mem_filter.1 hb).2
  rw [bel_iff] at hab ⊢
  show a.2.1 < b.2.1 ∨ a.2.1 = b.2.1 ∧ a.1 < b.1
  omega
 ·unfold rowI
  rw [mem_flip, List.mem_filter, List.mem_filter, turn_mem]
  exact Iff.rfl
theorem ref07_Turn_is (h : Is m n c l) : ∃ m', ref07_Turn m = some m' ∧ Is m' c n (turnL l) := by
 have hc := h.hc
 have hlen := h.len
 have hp : ∀ x ∈ turnL l, (0 ≤ x.1 ∧ x.1 < c) ∧ 0 ≤ x.2.1 ∧ x.2.1 < n := fun x hx => by
  have := h.p _ (turn_mem.1 hx)
  exact ⟨this.2, this.1⟩
 rw [ref07_Turn_eq, ref07_Sure_is h, Option.bind_some, ref07_Triples_is h, Option.bind_some]
 have q : loopO (ref07_Turn_b2 m l) ([], 0) = some (.inl (turnL l)) := by
  refine loop_stop c.toNat (fun j => (belR (turnL l) (j : Int), ((j : Nat) : Int))) (by rw [show ((0 : Nat) : Int) = 0 from rfl, belR_none fun x hx => (hp x hx).1.1]) (fun k hk => ?_) ?_
  ·have hb := belR_len (turnL l) (k : Int)
   rw [turn_len] at hb
   have q : loopO (ref07_Turn_b1 l (belR (turnL l) (k : Int), (k : Int))) (belR (turnL l) (k : Int), 0) = some (.inl (belR (turnL l) (k : Int) ++ (l.filter fun x => decide (x.2.1 = (k : Int))).map flip3)) := by
    refine loop_stop l.length (fun j => (belR (turnL l) (k : Int) ++ ((l.take j).filter fun x => decide (x.2.1 = (k : Int))).map flip3, ((j : Nat) : Int))) (by simp) (fun j hj => ?_) ?_
    ·have e : atL l (j : Int) = some l[j] := atL_some' (List.getElem?_eq_getElem hj)
     have hfl : ((l.take j).filter fun x => decide (x.2.1 = (k : Int))).length ≤ l.length := Nat.le_trans (List.length_filter_le _ _) (by rw [List.length_take]; omega)
     simp only [ref07_Turn_b1]
     rw [if_pos (by omega), e]
     simp only [Option.bind_some]
     rw [List.take_succ_eq_append_getElem hj, List.filter_append, List.map_append]
     by_cases hz : l[j].2.1 = (k : Int)
     ·rw [if_pos hz, app_ok (by simp [bound]; omega), Option.bind_some, w_succ hj (by omega)]
      simp only [List.filter_cons, decide_eq_true hz, if_true, List.filter_nil, List.map_cons, List.map_nil, List.append_assoc]
      unfold flip3
      rw [← hz]
     ·rw [if_neg hz, w_succ hj (by omega)]
      simp [hz]
    ·simp only [ref07_Turn_b1]
     rw [if_neg (by omega), List.take_length]
   simp only [ref07_Turn_b2]
   rw [h.e2, if_pos (by omega), q, Option.bind_some]
   simp only [Sum.elim_inl]
   rw [w_succ hk (by omega), belR_succ (turn_rises h.r), row_turn h.r]
  ·simp only [ref07_Turn_b2]
   rw [h.e2, if_neg (by omega), belR_all fun x hx => by have := (hp x hx).1; omega]
 rw [q, Option.bind_some]
 simp only [Sum.elim_inl]
 rw [h.e1, h.e2, ref07_built_w hc (ok_mo _) (by rw [mo_l, turn_len]; exact hlen) (by rw [mo_l]; exact fun x hx => (hp x hx).1), mo_l]
 exact ⟨_, rfl, is_mat hc h.hn (by rw [turn_len]; exact hlen) (turn_rises h.r) hp fun x hx => h.v (flip3 x) (turn_mem.1 hx)⟩
end
end Ev
end Go.Proofs.Ytlkcneneagifoaa
end
section
namespace Go.Proofs.Ytlkcneneagifoaa
namespace Ev
open Go Sm
set_option linter.unusedVariables false
set_option linter.unusedSimpArgs false
theorem dcsc_size_w (n : Int) : dcsc_size n = some (sizeF n) := by
 rw [← csr_size_w, dcsc_size_eq, csr_size_eq]
theorem dcsc_rises_w (s : Sl Int) (n : Int) (hok : okS 1 s) (hl : s.l.length ≤ 9223372036854775807) : dcsc_rises s n = some (ascI (-1) n s.l) := by
 rw [← csr_rises_w s n hok hl, dcsc_rises_eq, csr_rises_eq]
 rfl
theorem rfalse {c : Cx} (h : rightC c = true → False) : some false = some (rightC c) := by rw [Bool.eq_false_iff.2 h]
theorem colOk_iff {r : Int} {st ro : List Int} {i : Nat} : colOk r st ro i = true ↔ 0 ≤ st.getD i 0 ∧ st.getD i 0 < st.getD (i + 1) 0 ∧ st.getD (i + 1) 0 ≤ (ro.length : Int) ∧ ascI (-1) r (cutL ro (st.getD i 0) (st.getD (i + 1) 0)) = true := by
 unfold colOk
 simp only [Bool.and_eq_true, decide_eq_true_eq]
theorem rows_dcsc {r k : Int} {a s t v : Sl Int} (hs : okS 1 s) (ht : okS 1 t) (hn : a.l.length ≤ 4096) (hl : s.l.length = a.l.length + 1) (h0 : s.l.getD 0 0 = 0) (tl : t.l.length ≤ 65536) : ∃ q, loopO (dcsc_Right_b1 (r, k, a, s, t, v)) 0 = some q ∧ (((List.range a.l.length).all (colOk r s.l t.l) = true ∧ q = .inl ()) ∨ ((List.range a.l.length).all (colOk r s.l t.l) = false ∧ q = .inr (.inl false))) := by
 refine loop_up (b := dcsc_Right_b1 (r, k, a, s, t, v)) a.l.length (fun j z => z = (j : Int) ∧ 0 ≤ s.l.getD j 0 ∧ ∀ i, i < j → colOk r s.l t.l i = true) _ ?_ ?_ 0 (Nat.zero_le _) 0 ⟨rfl, by omega, fun i hi => absurd hi (by omega)⟩
 ·rintro j _ hj ⟨rfl, hp, ha⟩
  have e1 := at_get hs (j := j) (by omega)
  have e2 := at_get hs (j := j + 1) (by omega)
  rw [← getD_lt] at e1 e2
  simp only [dcsc_Right_b1, e1, Option.bind_some, w_succ hj (by omega)]
  rw [if_pos (by omega), e2]
  simp only [Option.bind_some]
  have bad : ¬ colOk r s.l t.l j = true → (List.range a.l.length).all (colOk r s.l t.l) = false := fun h => all_false hj (Bool.eq_false_iff.2 h)
  by_cases c1 : s.l.getD (j + 1) 0 ≤ s.l.getD j 0
  ·rw [if_pos c1]
   exact .inr ⟨_, rfl, .inr ⟨bad fun h => by have := colOk_iff.1 h; omega, rfl⟩⟩
  rw [if_neg c1]
  by_cases c2 : s.l.getD (j + 1) 0 > ((t.l.length : Nat) : Int)
  ·rw [if_pos c2]
   exact .inr ⟨_, rfl, .inr ⟨bad fun h => by have := colOk_iff.1 h; omega, rfl⟩⟩
  rw [if_neg c2]
  have hc : cutS 1 t (s.l.getD j 0) (s.l.getD (j + 1) 0) = some ⟨t.nn, t.sz, cutL t.l (s.l.getD j 0) (s.l.getD (j + 1) 0)⟩ := by
   unfold cutS
   have hz : t.sz = 1 ∨ s.l.getD j 0 = 0 := by
    rcases ht with h | h
    ·rw [h] at c2; simp only [List.length_nil] at c2; omega
    ·exact .inl h
   rw [if_pos ⟨hp, by omega, by omega, hz⟩]; rfl
  rw [hc]
  simp only [Option.bind_some]
  have hcl : (cutL t.l (s.l.getD j 0) (s.l.getD (j + 1) 0)).length ≤ 65536 := by rw [cutL_len ⟨hp, by omega, by omega⟩]; omega
  have hok : okS 1 (⟨t.nn, t.sz, cutL t.l (s.l.getD j 0) (s.l.getD (j + 1) 0)⟩ : Sl Int) := by
   rcases ht with h | h
   ·left; unfold cutL; simp [h]
   ·exact .inr h
  rw [dcsc_rises_w _ r hok (show (cutL t.l (s.l.getD j 0) (s.l.getD (j + 1) 0)).length ≤ _ by omega)]
  simp only [Option.bind_some]
  cases hb : ascI (-1) r (cutL t.l (s.l.getD j 0) (s.l.getD (j + 1) 0)) with
  | true =>
   rw [if_neg (by simp)]
   refine .inl ⟨_, rfl, rfl, by omega, fun i hi => ?_⟩
   by_cases e : i = j
   ·rw [e]
    exact colOk_iff.2 ⟨hp, by omega, by omega, hb⟩
   ·exact ha i (by omega)
  | false =>
   rw [if_pos (by simp)]
   exact .inr ⟨_, rfl, .inr ⟨bad fun h => (by have := (colOk_iff.1 h).2.2.2; rw [hb] at this; cases this), rfl⟩⟩
 ·rintro _ ⟨rfl, hp, ha⟩
  exact ⟨_, if_neg (show ¬ ((a.l.length : Nat) : Int) < ((a.l.length : Nat) : Int) by omega), .inl ⟨all_range.2 ha, rfl⟩⟩
theorem rightC_of {c : Cx} (h1 : sizeF c.1 = true) (h2 : sizeF c.2.1 = true) (h3 : c.2.2.2.1.l.length = c.2.2.1.l.length + 1) (h4 : c.2.2.2.1.l.getD 0 0 = 0) (h5 : ascI (-1) c.2.1 c.2.2.1.l = true) (h6 : c.2.2.2.2.1.l.length = c.2.2.2.2.2.l.length) (h7 : c.2.2.2.2.1.l.length ≤ 65536) (h8 : c.2.2.2.1.l.getD c.2.2.1.l.length 0 = c.2.2.2.2.1.l.length) : rightC c = (List.range c.2.2.1.l.length).all (colOk c.1 c.2.2.2.1.l c.2.2.2.2.1.l) := by
 unfold rightC
 rw [h1, h2, decide_eq_true h3, decide_eq_true h4, h5, decide_eq_true h6, decide_eq_true h7, decide_eq_true h8]
 rfl
theorem dcsc_Right_w {c : Cx} (h : OkC c) : dcsc_Right c = some (rightC c) := by
 obtain ⟨r, k, a, s, t, v⟩ := c
 obtain ⟨o1, o2, o3, o4, vv, la, ls, lr, lv⟩ := h
 simp only at o1 o2 o3 o4 vv la ls lr lv
 rw [dcsc_Right_eq]
 simp only [dcsc_size_w, Option.bind_some]
 by_cases z1 : sizeF r = true
 rotate_left
 ·rw [if_pos z1]; exact rfalse fun h => z1 (sizeF_iff.2 (rightC_spec h).1)
 rw [if_neg (fun h => h z1)]
 by_cases z2 : sizeF k = true
 rotate_left
 ·rw [if_pos z2]; exact rfalse fun h => z2 (sizeF_iff.2 (rightC_spec h).2.1)
 rw [if_neg (fun h => h z2), wrap64 (n := ((a.l.length : Nat) : Int) + 1) (by omega) (by omega)]
 by_cases g1 : s.l.length = a.l.length + 1
 rotate_left
 ·rw [if_pos (by omega)]; exact rfalse fun h => g1 (rightC_spec h).2.2.1
 rw [if_neg (by omega)]
 have e0 := at_get o2 (j := 0) (by omega)
 rw [← getD_lt] at e0
 have e0' : atS 1 s 0 = some (s.l.getD 0 0) := e0
 rw [e0']
 simp only [Option.bind_some]
 by_cases g2 : s.l.getD 0 0 = 0
 rotate_left
 ·rw [if_pos g2]; exact rfalse fun h => g2 (rightC_spec h).2.2.2.1
 rw [if_neg (fun h => h g2), dcsc_rises_w _ _ o1 (by omega)]
 simp only [Option.bind_some]
 by_cases g3 : ascI (-1) k a.l = true
 rotate_left
 ·rw [if_pos g3]; exact rfalse fun h => g3 (rightC_spec h).2.2.2.2.1
 rw [if_neg (fun h => h g3)]
 by_cases g4 : t.l.length = v.l.length
 rotate_left
 ·rw [if_pos (by omega)]; exact rfalse fun h => g4 (rightC_spec h).2.2.2.2.2.1
 rw [if_neg (by omega)]
 by_cases g5 : t.l.length ≤ 65536
 rotate_left
 ·rw [if_pos (by omega)]; exact rfalse fun h => g5 (rightC_spec h).2.2.2.2.2.2.1
 rw [if_neg (by omega)]
 have en := at_get o2 (j := a.l.length) (by omega)
 rw [← getD_lt] at en
 rw [en]
 simp only [Option.bind_some]
 by_cases g6 : s.l.getD a.l.length 0 = ((t.l.length : Nat) : Int)
 rotate_left
 ·rw [if_pos g6]; exact rfalse fun h => g6 (rightC_spec h).2.2.2.2.2.2.2.1
 rw [if_neg (fun h => h g6)]
 obtain ⟨q, q1, q2⟩ := rows_dcsc (r := r) (k := k) (v := v) o2 o3 la g1 g2 g5
 rw [q1, rightC_of z1 z2 g1 g2 g3 g4 g5 g6]
 rcases q2 with ⟨e, rfl⟩ | ⟨e, rfl⟩ <;> simp only [e] <;> rfl
def atOk (k : Int) (al : List Int) (j : Nat) : Bool := decide (0 ≤ al.getD j 0 ∧ al.getD j 0 < k ∧ (j ≠ 0 → al.getD (j - 1) 0 < al.getD j 0))
theorem atOk_all {k : Int} {al : List Int} : ascI (-1) k al = true ↔ ∀ j, j < al.length → atOk k al j = true := by
 rw [ascI_iff]
 constructor
 ·intro h j hj
  have := h j hj
  unfold atOk
  rw [decide_eq_true_eq, getD_lt hj]
  refine ⟨this.1, this.2.1, fun h0 => ?_⟩
  rw [getD_lt (show j - 1 < al.length by omega)]
  exact this.2.2 h0
 ·intro h j hj
  have := h j hj
  unfold atOk at this
  rw [decide_eq_true_eq, getD_lt hj] at this
  refine ⟨this.1, this.2.1, fun h0 => ?_⟩
  have h2 := this.2.2 h0
  rwa [getD_lt (show j - 1 < al.length by omega)] at h2
theorem rows_ref8 {r k : Int} {a s t v : Sl Int} (hA : okS 1 a) (hs : okS 1 s) (ht : okS 1 t) (hn : a.l.length ≤ 4096) (hl : s.l.length = a.l.length + 1) (tl : t.l.length ≤ 65536) : ∃ q, loopO (ref08_Right_b3 (r, k, a, s, t, v)) 0 = some q ∧ (((∀ j, j < a.l.length → atOk k a.l j = true ∧ colOk r s.l t.l j = true) ∧ q = .inl ()) ∨ (¬ (∀ j, j < a.l.length → atOk k a.l j = true ∧ colOk r s.l t.l j = true) ∧ q = .inr (.inl false))) := by
 refine loop_up (b := ref08_Right_b3 (r, k, a, s, t, v)) a.l.length (fun j z => z = (j : Int) ∧ ∀ i, i < j → atOk k a.l i = true ∧ colOk r s.l t.l i = true) _ ?_ ?_ 0 (Nat.zero_le _) 0 ⟨rfl, fun i hi => absurd hi (by omega)⟩
 ·rintro j _ hj ⟨rfl, ha⟩
  have e0 := at_get hA (j := j) hj
  have e1 := at_get hs (j := j) (by omega)
  have e2 := at_get hs (j := j + 1) (by omega)
  rw [← getD_lt] at e0 e1 e2
  simp only [ref08_Right_b3, e0, e1, Option.bind_some, w_succ hj (by omega), e2]
  rw [if_pos (by omega)]
  have badA : ¬ atOk k a.l j = true → ¬ ∀ j, j < a.l.length → atOk k a.l j = true ∧ colOk r s.l t.l j = true := fun h h' => h (h' j hj).1
  have badC : ¬ colOk r s.l t.l j = true → ¬ ∀ j, j < a.l.length → atOk k a.l j = true ∧ colOk r s.l t.l j = true := fun h h' => h (h' j hj).2
  by_cases c1 : a.l.getD j 0 < 0
  ·rw [if_pos c1]
   exact .inr ⟨_, rfl, .inr ⟨badA fun h => by have := of_decide_eq_true h; omega, rfl⟩⟩
  rw [if_neg c1]
  by_cases c2 : a.l.getD j 0 ≥ k
  ·rw [if_pos c2]
   exact .inr ⟨_, rfl, .inr ⟨badA fun h => by have := of_decide_eq_true h; omega, rfl⟩⟩
  rw [if_neg c2]
  have rest : atOk k a.l j = true → ((∃ a', (if s.l.getD j 0 < 0 then some (Sum.inr (Sum.inr (Sum.inl false))) else if s.l.getD j 0 ≥ s.l.getD (j + 1) 0 then some (Sum.inr (Sum.inr (Sum.inl false))) else if s.l.getD (j + 1) 0 > ((t.l.length : Nat) : Int) then some (Sum.inr (Sum.inr (Sum.inl false))) else (loopO (ref07_Right_b1 (0, r, s, t, v) (j : Int)) (s.l.getD j 0)).bind fun (y : PUnit ⊕ Bool ⊕ Empty) => Sum.elim (fun (val : PUnit) => some (Sum.inl ((j + 1 : Nat) : Int))) (fun (val : Bool ⊕ Empty) => Sum.elim (fun (val : Bool) => some (Sum.inr (Sum.inr (Sum.inl val)))) (fun (val : Empty) => nE val) val) y : Option (Int ⊕ PUnit ⊕ Bool ⊕ Empty)) = some (.inl a') ∧ a' = ((j + 1 : Nat) : Int) ∧ ∀ i, i < j + 1 → atOk k a.l i = true ∧ colOk r s.l t.l i = true) ∨ ∃ q, (if s.l.getD j 0 < 0 then some (Sum.inr (Sum.inr (Sum.inl false))) else if s.l.getD j 0 ≥ s.l.getD (j + 1) 0 then some (Sum.inr (Sum.inr (Sum.inl false))) else if s.l.getD (j + 1) 0 > ((t.l.length : Nat) : Int) then some (Sum.inr (Sum.inr (Sum.inl false))) else (loopO (ref07_Right_b1 (0, r, s, t, v) (j : Int)) (s.l.getD j 0)).bind fun (y : PUnit ⊕ Bool ⊕ Empty) => Sum.elim (fun (val : PUnit) => some (Sum.inl ((j + 1 : Nat) : Int))) (fun (val : Bool ⊕ Empty) => Sum.elim (fun (val : Bool) => some (Sum.inr (Sum.inr (Sum.inl val)))) (fun (val : Empty) => nE val) val) y : Option (Int ⊕ PUnit ⊕ Bool ⊕ Empty)) = some (.inr q) ∧ (((∀ j, j < a.l.length → atOk k a.l j = true ∧ colOk r s.l t.l j = true) ∧ q = .inl ()) ∨ (¬ (∀ j, j < a.l.length → atOk k a.l j = true ∧ colOk r s.l t.l j = true) ∧ q = .inr (.inl false)))) := by
   intro hat
   by_cases d1 : s.l.getD j 0 < 0
   ·rw [if_pos d1]
    exact .inr ⟨_, rfl, .inr ⟨badC fun h => by have := colOk_iff.1 h; omega, rfl⟩⟩
   rw [if_neg d1]
   by_cases d2 : s.l.getD j 0 ≥ s.l.getD (j + 1) 0
   ·rw [if_pos d2]
    exact .inr ⟨_, rfl, .inr ⟨badC fun h => by have := colOk_iff.1 h; omega, rfl⟩⟩
   rw [if_neg d2]
   by_cases d3 : s.l.getD (j + 1) 0 > ((t.l.length : Nat) : Int)
   ·rw [if_pos d3]
    exact .inr ⟨_, rfl, .inr ⟨badC fun h => by have := colOk_iff.1 h; omega, rfl⟩⟩
   rw [if_neg d3]
   obtain ⟨q, q1, q2⟩ := row_ref (nn := 0) (c := r) (v := v) hs ht hl tl hj ⟨by omega, by omega, by omega⟩ hn
   rw [q1]
   rcases q2 with ⟨e, rfl⟩ | ⟨e, rfl⟩
   ·refine .inl ⟨_, rfl, rfl, fun i hi => ?_⟩
    by_cases e' : i = j
    ·rw [e']; exact ⟨hat, colOk_iff.2 ⟨by omega, by omega, by omega, e⟩⟩
    ·exact ha i (by omega)
   ·exact .inr ⟨_, rfl, .inr ⟨badC fun h => (by have := (colOk_iff.1 h).2.2.2; rw [e] at this; cases this), rfl⟩⟩
  by_cases c3 : (j : Int) > 0
  ·rw [if_pos c3, wrap64 (n := (j : Int) - 1) (by omega) (by omega)]
   have ep := at_get hA (j := j - 1) (by omega)
   rw [← getD_lt, show ((j - 1 : Nat) : Int) = (j : Int) - 1 by omega] at ep
   rw [ep]
   simp only [Option.bind_some]
   by_cases c4 : a.l.getD j 0 ≤ a.l.getD (j - 1) 0
   ·rw [if_pos c4]
    exact .inr ⟨_, rfl, .inr ⟨badA fun h => by have := of_decide_eq_true h; omega, rfl⟩⟩
   rw [if_neg c4]
   exact rest (by unfold atOk; rw [decide_eq_true_eq]; omega)
  ·rw [if_neg c3]
   exact rest (by unfold atOk; rw [decide_eq_true_eq]; omega)
 ·rintro _ ⟨rfl, ha⟩
  exact ⟨_, if_neg (show ¬ ((a.l.length : Nat) : Int) < ((a.l.length : Nat) : Int) by omega), .inl ⟨ha, rfl⟩⟩
theorem ref08_Right_w {c : Cx} (h : OkC c) : ref08_Right c = some (rightC c) := by
 obtain ⟨r, k, a, s, t, v⟩ := c
 obtain ⟨o1, o2, o3, o4, vv, la, ls, lr, lv⟩ := h
 simp only at o1 o2 o3 o4 vv la ls lr lv
 rw [ref08_Right_eq]
 simp only
 by_cases a1 : r < 0
 ·rw [if_pos a1]; exact rfalse fun h => by have := (rightC_spec h).1; simp only at this; omega
 rw [if_neg a1]
 by_cases a2 : r > 4096
 ·rw [if_pos a2]; exact rfalse fun h => by have := (rightC_spec h).1; simp only at this; omega
 rw [if_neg a2]
 by_cases a3 : k < 0
 ·rw [if_pos a3]; exact rfalse fun h => by have := (rightC_spec h).2.1; simp only at this; omega
 rw [if_neg a3]
 by_cases a4 : k > 4096
 ·rw [if_pos a4]; exact rfalse fun h => by have := (rightC_spec h).2.1; simp only at this; omega
 rw [if_neg a4, wrap64 (n := ((a.l.length : Nat) : Int) + 1) (by omega) (by omega)]
 by_cases g1 : s.l.length = a.l.length + 1
 rotate_left
 ·rw [if_pos (by omega)]; exact rfalse fun h => g1 (rightC_spec h).2.2.1
 rw [if_neg (by omega)]
 by_cases g4 : t.l.length = v.l.length
 rotate_left
 ·rw [if_pos (by omega)]; exact rfalse fun h => g4 (rightC_spec h).2.2.2.2.2.1
 rw [if_neg (by omega)]
 by_cases g5 : t.l.length ≤ 65536
 rotate_left
 ·rw [if_pos (by omega)]; exact rfalse fun h => g5 (rightC_spec h).2.2.2.2.2.2.1
 rw [if_neg (by omega)]
 have e0 := at_get o2 (j := 0) (by omega)
 rw [← getD_lt] at e0
 have e0' : atS 1 s 0 = some (s.l.getD 0 0) := e0
 rw [e0']
 simp only [Option.bind_some]
 by_cases g2 : s.l.getD 0 0 = 0
 rotate_left
 ·rw [if_pos g2]; exact rfalse fun h => g2 (rightC_spec h).2.2.2.1
 rw [if_neg (fun h => h g2)]
 have en := at_get o2 (j := a.l.length) (by omega)
 rw [← getD_lt] at en
 rw [en]
 simp only [Option.bind_some]
 by_cases g6 : s.l.getD a.l.length 0 = ((t.l.length : Nat) : Int)
 rotate_left
 ·rw [if_pos g6]; exact rfalse fun h => g6 (rightC_spec h).2.2.2.2.2.2.2.1
 rw [if_neg (fun h => h g6)]
 obtain ⟨q, q1, q2⟩ := rows_ref8 (r := r) (k := k) (v := v) o1 o2 o3 la g1 g5
 rw [q1]
 rcases q2 with ⟨e, rfl⟩ | ⟨e, rfl⟩
 ·have g3 : ascI (-1) k a.l = true := atOk_all.2 fun j hj => (e j hj).1
  rw [rightC_of (sizeF_iff.2 ⟨by simp only; omega, by simp only; omega⟩) (sizeF_iff.2 ⟨by simp only; omega, by simp only; omega⟩) g1 g2 g3 g4 g5 g6, all_range.2 fun j hj => (e j hj).2]
  rfl
 ·exact rfalse fun h => e fun j hj => ⟨atOk_all.1 (rightC_spec h).2.2.2.2.1 j hj, (rightC_spec h).2.2.2.2.2.2.2.2 j hj⟩
def nilC : Cx := (0, 0, nilS, ⟨true, 1, [0]⟩, nilS, nilS)
theorem nilC_is : IsC nilC 0 0 [] := ⟨by omega, by omega, by simp, List.Pairwise.nil, fun x hx => by simp at hx, fun x hx => by simp at hx, rfl, rfl, rfl, rfl, rfl, rfl, ok_nil, .inr rfl, ok_nil, ok_nil⟩
section
variable {c : Cx} {n k : Int} {T : List E3}
theorem IsC.ok (h : IsC c n k T) : OkC c := by
 have := h.atLen
 have := h.stLen
 have := h.len
 refine ⟨h.o3, h.o4, h.o5, h.o6, fun y hy => ?_, by omega, by omega, ?_, ?_⟩
 ·rw [h.e6] at hy
  obtain ⟨x, hx, rfl⟩ := List.mem_map.1 hy
  exact h.v x hx
 ·rw [h.e5, List.length_map]; omega
 ·rw [h.e6, List.length_map]; omega
theorem getD_some {l : List Int} {i : Nat} {x : Int} (h : l[i]? = some x) : l.getD i 0 = x := by rw [List.getD_eq_getElem?_getD, h]; rfl
theorem IsC.right (h : IsC c n k T) : rightC c = true := by
 have hl := h.last
 have hlen := h.len
 rw [rightC_of (sizeF_iff.2 (by rw [h.e1]; exact h.hn)) (sizeF_iff.2 (by rw [h.e2]; exact h.hk)) h.stLen (by rw [h.e4]; rfl) ?_ (by rw [h.e5, h.e6, List.length_map, List.length_map]) (by rw [h.e5, List.length_map]; exact hlen) (by rw [getD_some hl, h.e5, List.length_map])]
 ·refine all_range.2 fun i hi => colOk_iff.2 ?_
  obtain ⟨jn, e1, h1, h2, h3, h4⟩ := h.at_ge (List.getElem?_eq_getElem hi)
  rw [getD_some h3, getD_some h4, h.e5, List.length_map]
  have h5 : cntR T jn < cntR T (jn + 1) := by simpa [neC] using h2
  have h6 := cntR_le T (jn + 1)
  refine ⟨by omega, by omega, by omega, ?_⟩
  rw [cutL_map]
  unfold cutL
  rw [Int.toNat_natCast, Int.toNat_natCast, (row_cut h.r jn).2, ← rowI_nat, ascI_iff']
  refine ⟨row_asc h.r _, fun x hx => ?_⟩
  obtain ⟨y, hy, rfl⟩ := List.mem_map.1 hx
  have := (h.p y (rowI_fst hy).1).2
  rw [h.e1]
  omega
 ·rw [h.e2, ascI_iff']
  refine ⟨h.asc, fun x hx => ?_⟩
  rw [h.e3] at hx
  obtain ⟨j, rfl, h1, _⟩ := cols_mem.1 hx
  omega
theorem dcsc_Right_is (h : IsC c n k T) : dcsc_Right c = some true := by rw [dcsc_Right_w h.ok, h.right]
theorem dcsc_sure_is (h : IsC c n k T) : dcsc_sure c = some c := by rw [dcsc_sure_eq, dcsc_Right_is h]; rfl
theorem ref08_Sure_is (h : IsC c n k T) : ref08_Sure c = some c := by rw [ref08_Sure_eq, ref08_Right_w h.ok, h.right]; rfl
theorem sureC_is (ok : OkC c) : ∃ q n k T, dcsc_sure c = some q ∧ ref08_Sure c = some q ∧ IsC q n k T := by
 rw [dcsc_sure_eq, ref08_Sure_eq, dcsc_Right_w ok, ref08_Right_w ok]
 simp only [Option.bind_some]
 by_cases h : rightC c = true
 ·rw [if_pos h]
  exact ⟨_, _, _, _, rfl, rfl, rightC_is ok h⟩
 ·rw [if_neg h]
  exact ⟨nilC, _, _, _, rfl, rfl, nilC_is⟩
end
end Ev
end Go.Proofs.Ytlkcneneagifoaa
end
section
namespace Go.Proofs.Ytlkcneneagifoaa
namespace Ev
open Go Sm
set_option linter.unusedVariables false
set_option linter.unusedSimpArgs false
theorem cutS_all {s : Sl Int} {a b : Nat} (hs : okS 1 s) (hab : a ≤ b) (hb : b ≤ s.l.length) : ∃ t : Sl Int, cutS 1 s (a : Int) (b : Int) = some t ∧ t.l = (s.l.drop a).take (b - a) ∧ okS 1 t := by
 have hz : s.sz = 1 ∨ (a : Int) = 0 := by
  rcases hs with h | h
  ·rw [h] at hb; simp at hb; right; omega
  ·exact .inl h
 refine ⟨⟨s.nn, s.sz, (s.l.drop a).take (b - a)⟩, ?_, rfl, ?_⟩
 ·unfold cutS
  rw [if_pos ⟨by omega, by omega, by omega, hz⟩]
  simp
 ·rcases hs with h | h
  ·left; simp [h]
  ·exact .inr h
def colV (n k : Int) (T : List E3) : Cx := (n, k, mo 1 (colsN T k.toNat), ⟨true, 1, startN T k.toNat⟩, ⟨true, 1, T.map (·.2.1)⟩, ⟨true, 1, T.map (·.2.2)⟩)
section
variable {m : Mx} {n k : Int} {l T : List E3} {c : Cx}
theorem colV_is (hn : 0 ≤ n ∧ n ≤ 4096) (hk : 0 ≤ k ∧ k ≤ 4096) (hl : T.length ≤ 65536) (h : rises T) (hp : ∀ x ∈ T, (0 ≤ x.1 ∧ x.1 < k) ∧ 0 ≤ x.2.1 ∧ x.2.1 < n) (hv : ∀ x ∈ T, i64r x.2.2) : IsC (colV n k T) n k T :=
 ⟨hn, hk, hl, h, hp, hv, rfl, rfl, mo_l _ _, rfl, rfl, rfl, ok_mo _, .inr rfl, .inr rfl, .inr rfl⟩
theorem cnt_turn (l : List E3) (i : Nat) : cntR (l.map flip3) i = cntR (turnL l) i := by
 unfold cntR
 rw [(turn_perm l).countP_eq]
theorem dcsc_Of_x (h : Is m n k l) : K.dcsc_Of m = some (colV n k (turnL l)) := by
 have hk := h.hc
 have hT := turn_rises h.r
 have e : L2.csr_Turn m = some (k, n, ⟨true, 1, tabN k.toNat fun i => ((cntR (l.map flip3) i : Nat) : Int)⟩, ⟨true, 1, (turnL l).map (·.2.1)⟩, ⟨true, 1, (turnL l).map (·.2.2)⟩) := csr_Turn_x h
 rw [show (tabN k.toNat fun i => ((cntR (l.map flip3) i : Nat) : Int)) = tabN k.toNat fun i => ((cntR (turnL l) i : Nat) : Int) from tabN_congr fun i _ => by rw [cnt_turn]] at e
 generalize turnL l = T at *
 obtain ⟨m1, m2, m3, m4, m5⟩ := m
 unfold K.dcsc_Of L2.dcsc_Of
 simp only [e, Option.bind_some]
 obtain ⟨t, t1, t2, t3⟩ := cutS_all (s := ⟨true, 1, tabN k.toNat fun i => ((cntR T i : Nat) : Int)⟩) (a := 0) (b := k.toNat) (.inr rfl) (by omega) (by rw [tabN_len]; omega)
 simp only at t2
 have hw : IntKind.i64.wrap ((((tabN k.toNat fun i => ((cntR T i : Nat) : Int)).length : Nat) : Int) - 1) = ((k.toNat : Nat) : Int) := by rw [tabN_len, wrap64 (by omega) (by omega)]; omega
 rw [hw, show (0 : Int) = ((0 : Nat) : Int) from rfl, t1]
 simp only [Option.bind_some]
 have tl : t.l.length = k.toNat := by rw [t2]; simp [tabN_len]
 have q : loopO (L2.dcsc_Of_b1 ⟨true, 1, tabN k.toNat fun i => ((cntR T i : Nat) : Int)⟩ t) (((0 : Nat) : Int), [], [((0 : Nat) : Int)]) = some (.inl (colsN T k.toNat, startN T k.toNat)) := by
  refine loop_stop k.toNat (fun i => ((i : Int), colsN T i, startN T i)) rfl (fun i hi => ?_) ?_
  ·have a1 : atS 1 t (i : Int) = some ((cntR T i : Nat) : Int) := atS_some' t3 (by
    rw [t2, List.drop_zero, Nat.sub_zero, List.getElem?_take_of_lt hi]
    exact tabN_get _ (by omega))
   have a2 : atS 1 (⟨true, 1, tabN k.toNat fun i => ((cntR T i : Nat) : Int)⟩ : Sl Int) ((i + 1 : Nat) : Int) = some ((cntR T (i + 1) : Nat) : Int) := atS_some' (.inr rfl) (tabN_get (k := i + 1) _ (by omega))
   have w1 : IntKind.i64.wrap ((i : Int) + 1) = ((i + 1 : Nat) : Int) := w_succ hi (by omega)
   have hcl := cols_len (T := T) i
   have hsl := start_len (T := T) i
   simp only [L2.dcsc_Of_b1, a1, w1, a2, Option.bind_some]
   rw [if_pos (by omega), colsN_succ, startN_succ]
   by_cases hne : neC T i = true
   ·have h1 : cntR T i < cntR T (i + 1) := by simpa [neC] using hne
    rw [if_pos (by omega), app_ok (by simp; unfold bound; omega), app_ok (by simp; unfold bound; omega), if_pos hne, if_pos hne]
    rfl
   ·have h1 : ¬ cntR T i < cntR T (i + 1) := by simpa [neC] using hne
    rw [if_neg (by omega), if_neg hne, if_neg hne, List.append_nil, List.append_nil]
  ·simp only [L2.dcsc_Of_b1]
   rw [if_neg (by omega)]
 rw [q]
 rfl
theorem dcsc_Of_is (h : Is m n k l) : ∃ q, K.dcsc_Of m = some q ∧ IsC q n k (turnL l) := by
 refine ⟨_, dcsc_Of_x h, colV_is h.hn h.hc (by rw [turn_len]; exact h.len) (turn_rises h.r) (fun x hx => ?_) fun x hx => h.v (flip3 x) (turn_mem.1 hx)⟩
 have := h.p _ (turn_mem.1 hx)
 exact ⟨this.2, this.1⟩
theorem div_half {n : Nat} (h : n ≤ 100000) : divO .i64 (n : Int) 2 = some ((n / 2 : Nat) : Int) := by
 unfold divO
 rw [if_pos (by omega), Int.tdiv_eq_ediv_of_nonneg (by omega), wrap64 (by omega) (by omega)]
 rfl
theorem dcsc_find_x (h : IsC c n k T) (y : Int) : (∃ j : Nat, y = (j : Int) ∧ dcsc_find c y = some (((cntR T j : Nat) : Int), ((cntR T (j + 1) : Nat) : Int))) ∨ (rowI T y = [] ∧ dcsc_find c y = some (0, 0)) := by
 have hp := List.pairwise_iff_getElem.1 h.asc
 have hL := h.atLen
 have key : ∀ d a b : Nat, b - a ≤ d → a ≤ b → b ≤ c.2.2.1.l.length → (∀ j (hj : j < c.2.2.1.l.length), j < a → c.2.2.1.l[j] < y) → (∀ j (hj : j < c.2.2.1.l.length), b ≤ j → y < c.2.2.1.l[j]) → (∃ j : Nat, y = (j : Int) ∧ loopO (dcsc_find_b1 c y) (0, 0, (a : Int), (b : Int)) = some (.inl (((cntR T j : Nat) : Int), ((cntR T (j + 1) : Nat) : Int)))) ∨ (y ∉ c.2.2.1.l ∧ loopO (dcsc_find_b1 c y) (0, 0, (a : Int), (b : Int)) = some (.inl (0, 0))) := by
  intro d
  induction d with
  | zero =>
   intro a b hd hab hb h1 h2
   obtain rfl : a = b := by omega
   refine .inr ⟨fun hy => ?_, loopO_done ?_⟩
   ·obtain ⟨j, hj, he⟩ := List.mem_iff_getElem.1 hy
    rcases Nat.lt_or_ge j a with h3 | h3
    ·have := h1 j hj h3; omega
    ·have := h2 j hj h3; omega
   ·simp only [dcsc_find_b1]
    rw [if_neg (by omega)]
  | succ d ih =>
   intro a b hd hab hb h1 h2
   by_cases hlt : a < b
   ·have hmid : (a + b) / 2 < c.2.2.1.l.length := by omega
    have e1 : IntKind.i64.wrap ((a : Int) + (b : Int)) = ((a + b : Nat) : Int) := by rw [wrap64 (by omega) (by omega)]; omega
    have e2 := div_half (n := a + b) (by omega)
    have a1 := atS_some' h.o3 (List.getElem?_eq_getElem hmid)
    have w1 : IntKind.i64.wrap ((((a + b) / 2 : Nat) : Int) + 1) = (((a + b) / 2 + 1 : Nat) : Int) := by rw [wrap64 (by omega) (by omega)]; omega
    by_cases hc : c.2.2.1.l[(a + b) / 2] = y
    ·obtain ⟨jn, j1, j2, j3, j4, j5⟩ := h.at_ge (List.getElem?_eq_getElem hmid)
     refine .inl ⟨jn, by omega, loopO_done ?_⟩
     simp only [dcsc_find_b1]
     rw [if_pos (by omega), e1, e2]
     simp only [Option.bind_some]
     rw [a1]
     simp only [Option.bind_some]
     rw [if_pos hc, atS_some' h.o4 j4, w1, atS_some' h.o4 j5]
     rfl
    by_cases hc2 : c.2.2.1.l[(a + b) / 2] < y
    ·have st : loopO (dcsc_find_b1 c y) (0, 0, (a : Int), (b : Int)) = loopO (dcsc_find_b1 c y) (0, 0, (((a + b) / 2 + 1 : Nat) : Int), (b : Int)) := loopO_step (by
      simp only [dcsc_find_b1]
      rw [if_pos (by omega), e1, e2]
      simp only [Option.bind_some]
      rw [a1]
      simp only [Option.bind_some]
      rw [if_neg hc, if_pos hc2, w1])
     rw [st]
     exact ih ((a + b) / 2 + 1) b (by omega) (by omega) hb (fun j hj hja => by
      by_cases hjm : j = (a + b) / 2
      ·subst hjm; exact hc2
      ·have := hp j ((a + b) / 2) hj hmid (by omega); omega) h2
    ·have st : loopO (dcsc_find_b1 c y) (0, 0, (a : Int), (b : Int)) = loopO (dcsc_find_b1 c y) (0, 0, (a : Int), (((a + b) / 2 : Nat) : Int)) := loopO_step (by
      simp only [dcsc_find_b1]
      rw [if_pos (by omega), e1, e2]
      simp only [Option.bind_some]
      rw [a1]
      simp only [Option.bind_some]
      rw [if_neg hc, if_neg hc2])
     rw [st]
     exact ih a ((a + b) / 2) (by omega) (by omega) (by omega) h1 (fun j hj hja => by
      by_cases hjm : j = (a + b) / 2
      ·subst hjm; omega
      ·have := hp ((a + b) / 2) j hmid hj (by omega); omega)
   ·obtain rfl : a = b := by omega
    exact ih a a (by omega) hab hb h1 h2
 rw [dcsc_find_eq]
 rcases key c.2.2.1.l.length 0 c.2.2.1.l.length (by omega) (by omega) (Nat.le_refl _) (fun j _ h => by omega) (fun j hj h => by omega) with ⟨j, q1, q2⟩ | ⟨q1, q2⟩
 ·refine .inl ⟨j, q1, ?_⟩
  rw [show ((0 : Int), (0 : Int), (0 : Int), (c.2.2.1.l.length : Int)) = (0, 0, ((0 : Nat) : Int), (c.2.2.1.l.length : Int)) from rfl, q2]
  rfl
 ·refine .inr ⟨?_, ?_⟩
  ·rw [h.mem_iff] at q1
   exact Classical.not_not.1 q1
  ·rw [show ((0 : Int), (0 : Int), (0 : Int), (c.2.2.1.l.length : Int)) = (0, 0, ((0 : Nat) : Int), (c.2.2.1.l.length : Int)) from rfl, q2]
   rfl
theorem dcsc_find_is (h : IsC c n k T) (y : Int) : ∃ f t : Nat, dcsc_find c y = some ((f : Int), (t : Int)) ∧ f ≤ t ∧ t ≤ T.length ∧ (T.drop f).take (t - f) = rowI T y ∧ t - f = (rowI T y).length := by
 rcases dcsc_find_x h y with ⟨j, rfl, e⟩ | ⟨e1, e2⟩
 ·have := cnt_succ T j
  refine ⟨_, _, e, by omega, cntR_le _ _, ?_, by omega⟩
  rw [(row_cut h.r j).2, rowI_nat]
 ·exact ⟨0, 0, e2, by omega, by omega, by simp [e1], by simp [e1]⟩
theorem IsC.at_ro (h : IsC c n k T) {i : Nat} (hi : i < T.length) : atS 1 c.2.2.2.2.1 (i : Int) = some T[i].2.1 := atS_some' h.o5 (by rw [h.e5, List.getElem?_map, List.getElem?_eq_getElem hi]; rfl)
theorem IsC.at_va (h : IsC c n k T) {i : Nat} (hi : i < T.length) : atS 1 c.2.2.2.2.2 (i : Int) = some T[i].2.2 := atS_some' h.o6 (by rw [h.e6, List.getElem?_map, List.getElem?_eq_getElem hi]; rfl)
theorem cap_zero {n : Nat} (h : n ≤ 1000000) : capOk 0 (n : Int) = some () := by
 unfold capOk
 split <;> first | rfl | (rw [if_pos ⟨by omega, by unfold bound; omega⟩])
theorem take_snoc {α : Type} {l : List α} {a b i : Nat} (hb : b ≤ l.length) (hi : a + i < b) : ((l.drop a).take (i + 1)) = (l.drop a).take i ++ [l[a + i]] := by
 rw [List.take_add_one, List.getElem?_drop, List.getElem?_eq_getElem (by omega)]
 rfl
theorem dcsc_Column_is (h : IsC c n k T) (y : Int) : dcsc_Column c y = some ((rowI T y).map pr2) := by
 obtain ⟨f, t, e, h1, h2, h3, h4⟩ := dcsc_find_is h y
 have hlen := h.len
 rw [dcsc_Column_eq, dcsc_sure_is h]
 simp only [Option.bind_some]
 rw [e]
 simp only [Option.bind_some]
 rw [show IntKind.i64.wrap ((t : Int) - (f : Int)) = ((t - f : Nat) : Int) by rw [wrap64 (by omega) (by omega)]; omega, cap_zero (by omega), show lenOk 0 = some () from len_ok (n := 0) (by omega)]
 simp only [Option.bind_some]
 have q : loopO (dcsc_Column_b1 c ((f : Int), (t : Int))) (List.replicate (Int.toNat 0) (0, 0), (f : Int)) = some (.inl ((rowI T y).map pr2)) := by
  rw [← h3]
  refine loop_stop (t - f) (fun i => (((T.drop f).take i).map pr2, ((f + i : Nat) : Int))) ?_ (fun i hi => ?_) ?_
  ·simp
  ·have a1 := h.at_ro (i := f + i) (by omega)
   have a2 := h.at_va (i := f + i) (by omega)
   simp only [dcsc_Column_b1, a1, a2, Option.bind_some]
   rw [if_pos (by omega), app_ok (by simp; unfold bound; omega), wrap64 (by omega) (by omega), take_snoc h2 (by omega), List.map_append]
   rfl
  ·simp only [dcsc_Column_b1]
   rw [if_neg (by omega)]
 rw [q]
 rfl
theorem dcsc_Many_is (h : IsC c n k T) : dcsc_Many c = some (c.2.2.1.l.length : Int) := by
 rw [dcsc_Many_eq, dcsc_sure_is h]; rfl
theorem dcsc_Count_is (h : IsC c n k T) : dcsc_Count c = some (T.length : Int) := by
 rw [dcsc_Count_eq, dcsc_sure_is h]
 simp only [Option.bind_some]
 rw [h.e6, List.length_map]
def workN (T : List E3) (l : List Int) : Nat := (l.map fun y => (rowI T y).length).sum
theorem workN_app (T : List E3) (l : List Int) (y : Int) : workN T (l ++ [y]) = workN T l + (rowI T y).length := by unfold workN; simp
theorem workN_le (T : List E3) : ∀ l : List Int, workN T l ≤ l.length * T.length
 | [] => by simp [workN]
 | y :: l => by
  have := workN_le T l
  have h2 := rowI_len T y
  unfold workN at this ⊢
  rw [List.map_cons, List.sum_cons, List.length_cons, Nat.succ_mul]
  omega
theorem workN_top {T : List E3} (hT : T.length ≤ 65536) {l : List Int} (hl : l.length ≤ 10000) : workN T l ≤ 655360000 := by
 have := workN_le T l
 have : l.length * T.length ≤ 10000 * 65536 := Nat.mul_le_mul hl hT
 omega
theorem workN_take {T : List E3} {l : List Int} {i : Nat} (hi : i < l.length) : workN T (l.take (i + 1)) = workN T (l.take i) + (rowI T l[i]).length := by
 rw [List.take_succ_eq_append_getElem hi, workN_app]
theorem dcsc_Work_is (h : IsC c n k T) {y : Sl Int} (hy : okS 1 y) (hl : y.l.length ≤ 10000) : dcsc_Work c y = some (workN T y.l : Int) := by
 have hlen := h.len
 rw [dcsc_Work_eq, dcsc_sure_is h]
 simp only [Option.bind_some]
 have q : loopO (dcsc_Work_b1 y c) (0, 0) = some (.inl (workN T y.l : Int)) := by
  have e : workN T y.l = workN T (y.l.take y.l.length) := by rw [List.take_length]
  rw [e]
  refine loop_stop y.l.length (fun i => ((workN T (y.l.take i) : Int), (i : Int))) ?_ (fun i hi => ?_) ?_
  ·simp [workN]
  ·obtain ⟨f, t, e, h1, h2, h3, h4⟩ := dcsc_find_is h y.l[i]
   have a1 := atS_some' hy (List.getElem?_eq_getElem hi)
   have b1 := workN_top hlen (l := y.l.take i) (by rw [List.length_take]; omega)
   simp only [dcsc_Work_b1, a1, Option.bind_some]
   rw [if_pos (by omega), e]
   simp only [Option.bind_some]
   rw [wrap64 (n := (t : Int) - (f : Int)) (by omega) (by omega), wrap64 (n := (workN T (y.l.take i) : Int) + _) (by omega) (by omega), w_succ hi (by omega), workN_take hi, ← h4]
   refine congrArg some (congrArg Sum.inl (Prod.ext ?_ rfl))
   simp only
   omega
  ·simp only [dcsc_Work_b1]
   rw [if_neg (by omega)]
 rw [q]
 rfl
theorem IsC.back1 (h : IsC c n k T) : loopO (dcsc_Back_b1 c) (0, tabN k.toNat fun _ => 0) = some (.inl (tabN k.toNat fun x => if ((x : Int) - 1) ∈ c.2.2.1.l then ((cntR T x : Nat) : Int) else 0)) := by
 have hL := h.atLen
 have hk := h.hk
 have e : (fun x : Nat => if ((x : Int) - 1) ∈ c.2.2.1.l then ((cntR T x : Nat) : Int) else 0) = fun x : Nat => if ((x : Int) - 1) ∈ c.2.2.1.l.take c.2.2.1.l.length then ((cntR T x : Nat) : Int) else 0 := by rw [List.take_length]
 rw [e]
 refine loop_stop c.2.2.1.l.length (fun i => ((i : Int), tabN k.toNat fun x : Nat => if ((x : Int) - 1) ∈ c.2.2.1.l.take i then ((cntR T x : Nat) : Int) else 0)) ?_ (fun i hi => ?_) ?_
 ·simp
 ·obtain ⟨jn, j1, j2, j3, j4, j5⟩ := h.at_ge (List.getElem?_eq_getElem hi)
  have a1 := atS_some' h.o3 (List.getElem?_eq_getElem hi)
  rw [j1] at a1
  have w1 : IntKind.i64.wrap ((i : Int) + 1) = ((i + 1 : Nat) : Int) := w_succ hi (by omega)
  have w2 : IntKind.i64.wrap ((jn : Int) + 1) = ((jn + 1 : Nat) : Int) := w_succ (n := 4097) (by omega) (by omega)
  have a2 := atS_some' h.o4 j5
  have a3 := atL_some' (tabN_get (n := k.toNat) (k := jn + 1) (fun x : Nat => if ((x : Int) - 1) ∈ c.2.2.1.l.take i then ((cntR T x : Nat) : Int) else 0) (by omega))
  simp only [dcsc_Back_b1, a1, w1, a2, w2, Option.bind_some, a3]
  rw [if_pos (by omega), Int.toNat_natCast, tabN_set _ _ (by omega)]
  refine congrArg some (congrArg Sum.inl (Prod.ext rfl (tabN_congr fun x hx => ?_)))
  rw [List.take_succ_eq_append_getElem hi, j1]
  by_cases hxe : x = jn + 1
  ·subst hxe
   rw [if_pos rfl, if_pos (List.mem_append_right _ (by simp))]
  ·rw [if_neg hxe]
   have : (((x : Int) - 1) ∈ c.2.2.1.l.take i ++ [(jn : Int)]) ↔ ((x : Int) - 1) ∈ c.2.2.1.l.take i := by
    rw [List.mem_append, List.mem_singleton]
    constructor
    ·rintro (h | h)
     ·exact h
     ·omega
    ·exact .inl
   by_cases hm : ((x : Int) - 1) ∈ c.2.2.1.l.take i
   ·rw [if_pos hm, if_pos (this.2 hm)]
   ·rw [if_neg hm, if_neg (fun h => hm (this.1 h))]
 ·simp only [dcsc_Back_b1]
  rw [if_neg (by omega)]
theorem IsC.back2 (h : IsC c n k T) : loopO (dcsc_Back_b2 c) (0, tabN k.toNat fun x : Nat => if ((x : Int) - 1) ∈ c.2.2.1.l then ((cntR T x : Nat) : Int) else 0) = some (.inl (tabN k.toNat fun x => ((cntR T x : Nat) : Int))) := by
 have hk := h.hk
 refine loop_stop k.toNat (fun i => ((i : Int), tabN k.toNat fun x : Nat => if x ≤ i then ((cntR T x : Nat) : Int) else if ((x : Int) - 1) ∈ c.2.2.1.l then ((cntR T x : Nat) : Int) else 0)) ?_ (fun i hi => ?_) ?_
 ·refine congrArg (fun z => ((0 : Int), z)) (tabN_congr fun x hx => ?_)
  by_cases h0 : x ≤ 0
  ·obtain rfl : x = 0 := by omega
   rw [if_pos h0, cnt_zero h.h0]
   simp
  ·rw [if_neg h0]
 ·have w1 : IntKind.i64.wrap ((i : Int) + 1) = ((i + 1 : Nat) : Int) := w_succ hi (by omega)
  have g : ∀ x, x ≤ k.toNat → atL (tabN k.toNat fun x : Nat => if x ≤ i then ((cntR T x : Nat) : Int) else if ((x : Int) - 1) ∈ c.2.2.1.l then ((cntR T x : Nat) : Int) else 0) (x : Int) = some (if x ≤ i then ((cntR T x : Nat) : Int) else if ((x : Int) - 1) ∈ c.2.2.1.l then ((cntR T x : Nat) : Int) else 0) := fun x hx => atL_some' (tabN_get _ hx)
  simp only [dcsc_Back_b2]
  rw [h.e2, if_pos (by omega), w1, g (i + 1) (by omega), g i (by omega)]
  simp only [Option.bind_some]
  rw [Int.toNat_natCast, tabN_set _ _ (by omega), maxI_eq]
  refine congrArg some (congrArg Sum.inl (Prod.ext rfl (tabN_congr fun x hx => ?_)))
  by_cases hxe : x = i + 1
  ·subst hxe
   rw [if_pos rfl, if_neg (by omega), if_pos (Nat.le_refl _), if_pos (Nat.le_refl _)]
   have hc := cnt_succ T i
   have hm := h.mem_iff (j := (i : Int))
   rw [show ((i + 1 : Nat) : Int) - 1 = (i : Int) by omega]
   by_cases hr : rowI T (i : Int) = []
   ·rw [if_neg (fun hh => hm.1 hh hr)]
    rw [hr] at hc
    simp only [List.length_nil] at hc
    omega
   ·rw [if_pos (hm.2 hr)]
    omega
  ·rw [if_neg hxe]
   by_cases hxi : x ≤ i
   ·rw [if_pos hxi, if_pos (show x ≤ i + 1 by omega)]
   ·rw [if_neg hxi, if_neg (show ¬ x ≤ i + 1 by omega)]
 ·simp only [dcsc_Back_b2]
  rw [h.e2, if_neg (by omega)]
  refine congrArg some (congrArg Sum.inr (congrArg Sum.inl (tabN_congr fun x hx => ?_)))
  rw [if_pos hx]
theorem IsC.rows (h : IsC c n k T) : Is (k, n, (⟨true, 1, tabN k.toNat fun x => ((cntR T x : Nat) : Int)⟩ : Sl Int), c.2.2.2.2) k n T := ⟨h.hk, h.hn, h.len, h.r, h.p, h.v, rfl, rfl, rfl, h.e5, h.e6, .inr rfl, h.o5, h.o6⟩
theorem dcsc_Back_x (h : IsC c n k T) : dcsc_Back c = some (n, k, ⟨true, 1, tabN n.toNat fun i => ((cntR (turnL T) i : Nat) : Int)⟩, ⟨true, 1, (turnL T).map (·.2.1)⟩, ⟨true, 1, (turnL T).map (·.2.2)⟩) := by
 have hk := h.hk
 rw [dcsc_Back_eq, dcsc_sure_is h]
 simp only [Option.bind_some]
 rw [h.e2, h.e1, wrap64 (n := k + 1) (by omega) (by omega), capOk_self, len_one hk]
 simp only [Option.bind_some]
 rw [show (k + 1).toNat = k.toNat + 1 by omega, tabN_zero, h.back1]
 simp only [Option.bind_some, Sum.elim_inl]
 rw [h.back2]
 simp only [Option.bind_some, Sum.elim_inl]
 rw [csr_Turn_x h.rows]
 simp only [Option.bind_some]
 rw [show (tabN n.toNat fun i => ((cntR (T.map flip3) i : Nat) : Int)) = tabN n.toNat fun i => ((cntR (turnL T) i : Nat) : Int) from tabN_congr fun i _ => by rw [cnt_turn]]
theorem dcsc_Back_is (h : IsC c n k T) : ∃ m', dcsc_Back c = some m' ∧ Is m' n k (turnL T) := by
 refine ⟨_, dcsc_Back_x h, h.hn, h.hk, by rw [turn_len]; exact h.len, turn_rises h.r, fun x hx => ?_, fun x hx => h.v (flip3 x) (turn_mem.1 hx), rfl, rfl, rfl, rfl, rfl, .inr rfl, .inr rfl, .inr rfl⟩
 have := h.p _ (turn_mem.1 hx)
 exact ⟨this.2, this.1⟩
theorem dcsc_Same_is {c' : Cx} (h : IsC c n k T) (h' : IsC c' n k T) : dcsc_Same c c' = some true := by
 have l1 := h.atLen
 have l2 := h.stLen
 have l3 : c.2.2.2.2.1.l.length = T.length := by rw [h.e5, List.length_map]
 have l4 : c.2.2.2.2.2.l.length = T.length := by rw [h.e6, List.length_map]
 have l5 := h.len
 rw [dcsc_Same_eq, dcsc_sure_is h, dcsc_sure_is h']
 simp only [Option.bind_some]
 rw [slices_Equal_ints (by omega) h.o3 h'.o3, slices_Equal_ints (by omega) h.o4 h'.o4, slices_Equal_ints (by omega) h.o5 h'.o5, slices_Equal_vals (by omega) h.o6 h'.o6, h.e1, h'.e1, h.e2, h'.e2, h.e3, h'.e3, h.e4, h'.e4, h.e5, h'.e5, h.e6, h'.e6]
 simp
theorem ref08_Same_is {c' : Cx} (h : IsC c n k T) (h' : IsC c' n k T) : ref08_Same c c' = some true := by
 have l1 := h.atLen
 have l2 := h.stLen
 have l3 : c.2.2.2.2.1.l.length = T.length := by rw [h.e5, List.length_map]
 have l4 : c.2.2.2.2.2.l.length = T.length := by rw [h.e6, List.length_map]
 have l5 := h.len
 rw [ref08_Same_eq, ref03_SameInts_w (by omega) h.o3 h'.o3, ref03_SameInts_w (by omega) h.o4 h'.o4, ref03_SameInts_w (by omega) h.o5 h'.o5, ref07_SameVals_w (by omega) h.o6 h'.o6, h.e1, h'.e1, h.e2, h'.e2, h.e3, h'.e3, h.e4, h'.e4, h.e5, h'.e5, h.e6, h'.e6]
 simp
end
end Ev
end Go.Proofs.Ytlkcneneagifoaa
end
section
namespace Go.Proofs.Ytlkcneneagifoaa
namespace Ev
open Go Sm
set_option linter.unusedVariables false
set_option linter.unusedSimpArgs false
section
variable {m : Mx} {n c : Int} {l : List E3}
end
end Ev
end Go.Proofs.Ytlkcneneagifoaa
end
section
namespace Go.Proofs.Ytlkcneneagifoaa
namespace Ev
open Go Sm
set_option linter.unusedVariables false
set_option linter.unusedSimpArgs false
theorem same_rows {α : Type} [DecidableEq α] {x y : Sl α} (hl : x.l.length ≤ 9223372036854775806) {w : Nat} (hx : okS w x) (hy : okS w y) {b : Int → Option (Int ⊕ PUnit ⊕ Bool ⊕ Empty)} {P : α → α → Prop} [∀ u v, Decidable (P u v)] (hP : ∀ u v, P u v ↔ u = v)
  (hb : ∀ a, b a = if a < (x.l.length : Int) then (atS w x a).bind fun u => (atS w y a).bind fun v => if ¬ P u v then some (.inr (.inr (.inl false))) else some (.inl (IntKind.i64.wrap (a + 1))) else some (.inr (.inl ()))) :
  (if (x.l.length : Int) ≠ (y.l.length : Int) then some false else (loopO b 0).bind fun (y : PUnit ⊕ Bool ⊕ Empty) => Sum.elim (fun _ => some true) (fun v => Sum.elim (fun v => some v) (fun v => nE v) v) y) = some (decide (x.l = y.l)) := by
 refine same_slice hl hx hy fun a => ?_
 rw [hb]
 by_cases h : a < (x.l.length : Int)
 ·rw [if_pos h, if_pos h]
  cases atS w x a with
  | none => rfl
  | some u =>
   cases atS w y a with
   | none => rfl
   | some v =>
    simp only [Option.bind_some]
    by_cases he : u = v
    ·rw [if_neg (fun hh => hh ((hP u v).2 he)), if_neg (fun hh => hh he)]
    ·rw [if_pos (fun hh => he ((hP u v).1 hh)), if_pos he]
 ·rw [if_neg h, if_neg h]
theorem SameItems_w {x y : Sl (Int × Int)} (hl : x.l.length ≤ 9223372036854775806) (hx : okS 2 x) (hy : okS 2 y) : ref07_SameItems x y = some (decide (x.l = y.l)) := by
 rw [ref07_SameItems_eq]
 exact same_rows hl hx hy (P := fun u v => u.fst = v.fst ∧ u.snd = v.snd) (fun u v => Prod.ext_iff.symm) fun a => by unfold ref07_SameItems_b1; rfl
section
variable {m m' : Mx} {n c : Int} {l : List E3}
theorem sure_both (ok : OkM m) : ∃ a b n c l, csr_sure m = some a ∧ ref07_Sure m = some b ∧ Is a n c l ∧ Is b n c l := by
 by_cases hr : rightM m = true
 ·have h := right_is ok hr
  exact ⟨m, m, _, _, _, csr_sure_is h, ref07_Sure_is h, h, h⟩
 ·have hf := Bool.eq_false_iff.2 hr
  refine ⟨matV 0 0 [], (0, 0, ⟨true, 1, [0]⟩, nilS, nilS), 0, 0, [], ?_, ?_, is_mat (l := []) (by omega) (by omega) (by simp) List.Pairwise.nil (by simp) (by simp), ?_⟩
  ·rw [csr_sure_eq, csr_Right_w ok, hf, Option.bind_some, if_neg (by simp), show (⟨false, 0, []⟩ : Sl E3) = nilS from rfl, csr_build_w (by omega) ok_nil (by simp [nilS]) (by simp [nilS])]
   rfl
  ·rw [ref07_Sure_eq, ref07_Right_w ok, hf, Option.bind_some, if_neg (by simp), wrap64 (by omega) (by omega), capOk_self, Option.bind_some, show lenOk (0 + 1) = some () from len_ok (n := 1) (by omega), Option.bind_some]
   rfl
  ·refine ⟨by omega, by omega, by simp, List.Pairwise.nil, by simp, by simp, rfl, rfl, rfl, rfl, rfl, .inr rfl, ok_nil, ok_nil⟩
theorem csr_sure_same {a : Mx} (h : csr_sure m = some a) (ha : Is a n c l) : csr_sure a = csr_sure m := by rw [h, csr_sure_is ha]
theorem ref07_Sure_same {a : Mx} (h : ref07_Sure m = some a) (ha : Is a n c l) : ref07_Sure a = ref07_Sure m := by rw [h, ref07_Sure_is ha]
end
end Ev
end Go.Proofs.Ytlkcneneagifoaa
end
section
namespace Go.Proofs.Ytlkcneneagifoaa
namespace Ev
open Go Sm
set_option linter.unusedVariables false
set_option linter.unusedSimpArgs false
theorem fold_other {R : Rg} {k : Ky} : ∀ {l : List E3} {f : Ky → Option V}, k ∉ l.map key → l.foldl (Sm.upd R) f k = f k
 | [], f, _ => rfl
 | e :: l, f, h => by
  simp only [List.map_cons, List.mem_cons, not_or] at h
  rw [List.foldl_cons, fold_other h.2]
  unfold Sm.upd
  rw [if_neg h.1]
theorem fold_once {R : Rg} : ∀ {l : List E3} {f : Ky → Option V}, (l.map key).Nodup → (∀ k, f k = none) → ∀ e ∈ l, l.foldl (Sm.upd R) f (key e) = some (R.o e.2.2)
 | [], _, _, _, e, he => by simp at he
 | x :: l, f, hn, hf, e, he => by
  rw [List.map_cons, List.nodup_cons] at hn
  rw [List.foldl_cons]
  rcases List.mem_cons.1 he with rfl | he
  ·rw [fold_other hn.1]
   unfold Sm.upd
   rw [if_pos rfl, hf]
  ·-- the first one is another place
   have key2 : ∀ {l : List E3} {f g : Ky → Option V}, (∀ k ∈ l.map key, f k = g k) → ∀ k ∈ l.map key, l.foldl (Sm.upd R) f k = l.foldl (Sm.upd R) g k := by
    intro l
    induction l with
    | nil => intro f g _ k hk; simp at hk
    | cons y l ih =>
     intro f g hfg k hk
     rw [List.foldl_cons, List.foldl_cons]
     have hu : ∀ k', k' ∈ (y :: l).map key → Sm.upd R f y k' = Sm.upd R g y k' := fun k' hk' => by
      unfold Sm.upd
      rw [hfg (key y) (by simp), hfg k' hk']
     by_cases hkl : k ∈ l.map key
     ·exact ih (fun k' hk' => hu k' (by rw [List.map_cons]; exact List.mem_cons_of_mem _ hk')) k hkl
     ·rw [fold_other hkl, fold_other hkl]
      exact hu k hk
   rw [key2 (g := fun _ => none) (fun k hk => ?_) (key e) (List.mem_map_of_mem he)]
   ·exact fold_once hn.2 (fun _ => rfl) e he
   ·unfold Sm.upd
    rw [if_neg fun h => hn.1 (by rw [← h]; exact hk), hf]
theorem fm_once {R : Rg} {l : List E3} (hn : (l.map key).Nodup) {e : E3} (he : e ∈ l) : fm R l (key e) = some (R.o e.2.2) := fold_once hn (fun _ => rfl) e he
theorem sum_once {r : Int} {l l' : List E3} (hp : l'.Perm l) (hr : rises l') (hw : ∀ x ∈ l', i64r x.2.2) : sumR (RG r) l = (l', 0) := by
 have hn' : (l'.map key).Nodup := by
  show List.Pairwise _ _
  rw [List.pairwise_map]
  exact hr.imp fun {a b} h => klt_ne h
 have hn : (l.map key).Nodup := (hp.map key).nodup_iff.1 hn'
 have hf : fm (RG r) l = fm (RG r) l' := by
  funext k
  by_cases hk : ∃ e ∈ l, key e = k
  ·obtain ⟨e, he, rfl⟩ := hk
   rw [fm_once hn he, fm_once hn' (hp.mem_iff.2 he)]
  ·have h1 : fm (RG r) l k = none := by
    cases h : fm (RG r) l k with
    | none => rfl
    | some z => exact absurd (fm_some h) hk
   have h2 : fm (RG r) l' k = none := by
    cases h : fm (RG r) l' k with
    | none => rfl
    | some z =>
     obtain ⟨e, he, h3⟩ := fm_some h
     exact absurd ⟨e, hp.mem_iff.1 he, h3⟩ hk
   rw [h1, h2]
 have hc : canS (RG r) l = canS (RG r) l' := (rep_can (RG r) l).uniq (by rw [hf]; exact rep_can (RG r) l')
 have : sumR (RG r) l = sumR (RG r) l' := by unfold sumR; rw [hc]
 rw [this, sum_rising hr hw]
section
variable {m : Mx} {n k : Int} {l T : List E3} {c : Cx}
theorem ofV_once (hn : 0 ≤ n ∧ n ≤ 4096) (hk : 0 ≤ k ∧ k ≤ 4096) {r : Int} (hr : isRing r = true) {l' : List E3} (hp : l'.Perm l) (h : rises l') (hl : l.length ≤ 65536) (hi : ∀ x ∈ l, (0 ≤ x.1 ∧ x.1 < n) ∧ 0 ≤ x.2.1 ∧ x.2.1 < k) (hw : ∀ x ∈ l', i64r x.2.2) : ofV r n k l = (matV n k l', 0) := by
 have hall : l.all (inM n k) = true := by
  rw [List.all_eq_true]
  intro y hy
  unfold inM
  rw [decide_eq_true_eq]
  have := hi y hy
  omega
 unfold ofV
 rw [if_pos hr, if_pos ⟨sizeF_iff.2 hn, sizeF_iff.2 hk⟩, if_pos hl, if_pos hall, sum_once hp h hw]
 rfl
theorem take_cnt (h : rises T) (j : Nat) : T.take (cntR T (j + 1)) = T.take (cntR T j) ++ rowI T (j : Int) := by
 obtain ⟨h1, h2⟩ := row_cut h j
 rw [rowI_nat, ← h2, show cntR T (j + 1) = cntR T j + (cntR T (j + 1) - cntR T j) by omega, List.take_add, show cntR T j + (cntR T (j + 1) - cntR T j) - cntR T j = cntR T (j + 1) - cntR T j by omega]
def firstC (c : Cx) (T : List E3) (i : Nat) : List E3 := T.take (c.2.2.2.1.l.getD i 0).toNat
theorem IsC.first (h : IsC c n k T) {i : Nat} (hi : i < c.2.2.1.l.length) : ∃ f t j : Nat, c.2.2.1.l[i] = (j : Int) ∧ atS 1 c.2.2.1 (i : Int) = some (j : Int) ∧ atS 1 c.2.2.2.1 (i : Int) = some (f : Int) ∧ atS 1 c.2.2.2.1 ((i + 1 : Nat) : Int) = some (t : Int) ∧ f ≤ t ∧ t ≤ T.length ∧ (T.drop f).take (t - f) = rowI T (j : Int) ∧ firstC c T (i + 1) = firstC c T i ++ rowI T (j : Int) ∧ t - f = (rowI T (j : Int)).length := by
 obtain ⟨jn, j1, j2, j3, j4, j5⟩ := h.at_ge (List.getElem?_eq_getElem hi)
 have hc := cnt_succ T jn
 refine ⟨_, _, jn, j1, by rw [atS_some' h.o3 (List.getElem?_eq_getElem hi), j1], atS_some' h.o4 j4, atS_some' h.o4 j5, by omega, cntR_le _ _, by rw [(row_cut h.r jn).2, rowI_nat], ?_, by omega⟩
 unfold firstC
 rw [getD_some j4, getD_some j5, Int.toNat_natCast, Int.toNat_natCast, take_cnt h.r]
theorem IsC.first_zero (h : IsC c n k T) : firstC c T 0 = [] := by unfold firstC; rw [h.e4]; rfl
theorem IsC.first_all (h : IsC c n k T) : firstC c T c.2.2.1.l.length = T := by
 unfold firstC
 rw [getD_some h.last, Int.toNat_natCast, List.take_length]
theorem row_get (h : IsC c n k T) {f t j x : Nat} (ht : t ≤ T.length) (hr : (T.drop f).take (t - f) = rowI T (j : Int)) (hx : f + x < t) : (T[f + x]'(by omega)).1 = (j : Int) := by
 have : T[f + x]'(by omega) ∈ rowI T (j : Int) := by
  rw [← hr]
  refine List.mem_iff_getElem?.2 ⟨x, ?_⟩
  rw [List.getElem?_take_of_lt (by omega), List.getElem?_drop, List.getElem?_eq_getElem (by omega)]
 exact (rowI_fst this).2
theorem ref08_Column_is (h : IsC c n k T) (y : Int) : ref08_Column c y = some ((rowI T y).map pr2) := by
 have hL := h.atLen
 have hS := h.stLen
 have hlen := h.len
 rw [ref08_Column_eq, ref08_Sure_is h]
 simp only [Option.bind_some]
 have q : loopO (ref08_Column_b2 y c) ([], 0) = some (.inl ((rowI T y).map pr2)) := by
  rw [show rowI T y = rowI (firstC c T c.2.2.1.l.length) y by rw [h.first_all]]
  refine loop_stop c.2.2.1.l.length (fun i => ((rowI (firstC c T i) y).map pr2, (i : Int))) ?_ (fun i hi => ?_) ?_
  ·rw [h.first_zero]; rfl
  ·obtain ⟨f, t, j, j0, j1, j2, j3, j4, j5, j6, j7, j8⟩ := h.first hi
   have w1 : IntKind.i64.wrap ((i : Int) + 1) = ((i + 1 : Nat) : Int) := w_succ hi (by omega)
   have hfl : (firstC c T i).length ≤ 65536 := by unfold firstC; rw [List.length_take]; omega
   have hr0 := rowI_len (firstC c T i) y
   simp only [ref08_Column_b2, w1]
   rw [if_pos (by omega), if_pos (by omega), j2]
   simp only [Option.bind_some]
   have q2 : loopO (ref08_Column_b1 y c ((rowI (firstC c T i) y).map pr2, (i : Int))) ((rowI (firstC c T i) y).map pr2, (f : Int)) = some (.inl ((rowI (firstC c T (i + 1)) y).map pr2)) := by
    rw [j7]
    by_cases hy : (j : Int) = y
    ·have e : rowI (firstC c T i ++ rowI T (j : Int)) y = rowI (firstC c T i) y ++ (T.drop f).take (t - f) := by
      rw [j6]
      unfold rowI
      rw [List.filter_append, List.filter_filter]
      refine congrArg _ (List.filter_congr fun x _ => ?_)
      rw [hy]; simp
     rw [e]
     refine loop_stop (t - f) (fun x => (((rowI (firstC c T i) y) ++ (T.drop f).take x).map pr2, ((f + x : Nat) : Int))) ?_ (fun x hx => ?_) ?_
     ·simp
     ·have a1 := h.at_ro (i := f + x) (by omega)
      have a2 := h.at_va (i := f + x) (by omega)
      simp only [ref08_Column_b1, w1, j3, j1, a1, a2, Option.bind_some]
      rw [if_pos (by omega), if_pos hy, app_ok (by simp; unfold bound; omega), wrap64 (by omega) (by omega), take_snoc j5 (by omega)]
      simp only [List.map_append, List.map_cons, List.map_nil, List.append_assoc]
      rfl
     ·simp only [ref08_Column_b1, w1, j3, Option.bind_some]
      rw [if_neg (by omega)]
    ·have e : rowI (firstC c T i ++ rowI T (j : Int)) y = rowI (firstC c T i) y := by
      unfold rowI
      rw [List.filter_append, List.filter_filter]
      have : (T.filter fun x => decide (x.1 = y) && decide (x.1 = (j : Int))) = [] := by
       rw [List.filter_eq_nil_iff]
       intro x _
       simp only [Bool.and_eq_true, decide_eq_true_eq]
       omega
      rw [this, List.append_nil]
     rw [e]
     refine loopO_done ?_
     simp only [ref08_Column_b1, w1, j3, j1, Option.bind_some]
     by_cases hft : (f : Int) < (t : Int)
     ·rw [if_pos hft, if_neg hy]
     ·rw [if_neg hft]
   rw [q2]
   rfl
  ·simp only [ref08_Column_b2]
   rw [if_neg (by omega)]
 rw [q]
 rfl
theorem ref08_Back_is (h : IsC c n k T) : ∃ m', ref08_Back c = some m' ∧ Is m' n k (turnL T) := by
 have hL := h.atLen
 have hS := h.stLen
 have hlen := h.len
 rw [ref08_Back_eq, ref08_Sure_is h]
 simp only [Option.bind_some]
 have q : loopO (ref08_Back_b2 c) ([], 0) = some (.inl (T.map flip3)) := by
  rw [show T.map flip3 = (firstC c T c.2.2.1.l.length).map flip3 by rw [h.first_all]]
  refine loop_stop c.2.2.1.l.length (fun i => ((firstC c T i).map flip3, (i : Int))) ?_ (fun i hi => ?_) ?_
  ·rw [h.first_zero]; rfl
  ·obtain ⟨f, t, j, j0, j1, j2, j3, j4, j5, j6, j7, j8⟩ := h.first hi
   have w1 : IntKind.i64.wrap ((i : Int) + 1) = ((i + 1 : Nat) : Int) := w_succ hi (by omega)
   have hfl : (firstC c T i).length ≤ 65536 := by unfold firstC; rw [List.length_take]; omega
   simp only [ref08_Back_b2, w1]
   rw [if_pos (by omega), if_pos (by omega), j2]
   simp only [Option.bind_some]
   have q2 : loopO (ref08_Back_b1 c ((firstC c T i).map flip3, (i : Int))) ((firstC c T i).map flip3, (f : Int)) = some (.inl ((firstC c T (i + 1)).map flip3)) := by
    rw [j7, ← j6]
    refine loop_stop (t - f) (fun x => ((firstC c T i ++ (T.drop f).take x).map flip3, ((f + x : Nat) : Int))) ?_ (fun x hx => ?_) ?_
    ·simp
    ·have a1 := h.at_ro (i := f + x) (by omega)
     have a2 := h.at_va (i := f + x) (by omega)
     have a3 := row_get h (x := x) j5 j6 (by omega)
     simp only [ref08_Back_b1, w1, j3, j1, a1, a2, Option.bind_some]
     rw [if_pos (by omega), app_ok (by simp; unfold bound; omega), wrap64 (by omega) (by omega), take_snoc j5 (by omega), ← a3]
     simp only [List.map_append, List.map_cons, List.map_nil, List.append_assoc]
     rfl
    ·simp only [ref08_Back_b1, w1, j3, Option.bind_some]
     rw [if_neg (by omega)]
   rw [q2]
   rfl
  ·simp only [ref08_Back_b2]
   rw [if_neg (by omega)]
 rw [q]
 simp only [Option.bind_some, Sum.elim_inl]
 have ht : ∀ x ∈ turnL T, i64r x.2.2 := fun x hx => h.v (flip3 x) (turn_mem.1 hx)
 have hpt : ∀ x ∈ T.map flip3, (0 ≤ x.1 ∧ x.1 < n) ∧ 0 ≤ x.2.1 ∧ x.2.1 < k := fun x hx => by
  have := h.p _ (mem_flip.1 hx)
  exact ⟨this.2, this.1⟩
 rw [ref07_Of_w (ok_mo _), mo_l, h.e1, h.e2, ofV_once h.hn h.hk (by decide) (turn_perm T) (turn_rises h.r) (by rw [List.length_map]; exact hlen) hpt ht]
 exact ⟨_, rfl, is_mat h.hn h.hk (by rw [turn_len]; exact hlen) (turn_rises h.r) (fun x hx => by have := h.p _ (turn_mem.1 hx); exact ⟨this.2, this.1⟩) ht⟩
theorem ref08_Of_is (h : Is m n k l) : ∃ q, ref08_Of m = some q ∧ IsC q n k (turnL l) := by
 obtain ⟨t, t1, t2⟩ := ref07_Turn_is h
 have hk := h.hc
 have hlen := t2.len
 have hT := t2.r
 have h0 : ∀ x ∈ turnL l, 0 ≤ x.1 := fun x hx => (t2.p x hx).1.1
 rw [ref08_Of_eq, t1]
 simp only [Option.bind_some]
 generalize hTT : turnL l = T at *
 have q : loopO (ref08_Of_b2 t) (0, t.2.1, t.1, [], [0], [], []) = some (.inl (n, k, colsN T k.toNat, startN T k.toNat, T.map (·.2.1), T.map (·.2.2))) := by
  rw [t2.e1, t2.e2]
  have e : T = T.take (cntR T k.toNat) := by rw [cntR_top (fun x hx => (t2.p x hx).1.2) (by omega), List.take_length]
  rw [show (T.map (·.2.1), T.map (·.2.2)) = ((T.take (cntR T k.toNat)).map (·.2.1), (T.take (cntR T k.toNat)).map (·.2.2)) by rw [← e]]
  refine loop_stop k.toNat (fun i => ((i : Int), n, k, colsN T i, startN T i, (T.take (cntR T i)).map (·.2.1), (T.take (cntR T i)).map (·.2.2))) ?_ (fun i hi => ?_) ?_
  ·rw [cnt_zero h0]; rfl
  ·have w1 : IntKind.i64.wrap ((i : Int) + 1) = ((i + 1 : Nat) : Int) := w_succ hi (by omega)
   have hcl := cols_len (T := T) i
   have hsl := start_len (T := T) i
   have hcs := cnt_succ T i
   have hcle := cntR_le T (i + 1)
   simp only [ref08_Of_b2]
   rw [t2.e1, if_pos (by omega), ref07_Row_is t2]
   simp only [Option.bind_some, w1]
   by_cases hr : rowI T (i : Int) = []
   ·have hne : ¬ neC T i = true := fun hh => neC_iff.1 hh hr
    rw [hr] at hcs
    simp only [List.length_nil] at hcs
    rw [hr, if_pos (by simp), colsN_succ, startN_succ, if_neg hne, if_neg hne, hcs]
    simp
   ·have hne : neC T i = true := neC_iff.2 hr
    have hpos := List.length_pos_iff.2 hr
    rw [if_neg (by rw [List.length_map]; omega), app_ok (by simp; unfold bound; omega)]
    simp only [Option.bind_some]
    have q2 : loopO (ref08_Of_b1 ((rowI T (i : Int)).map pr2)) (0, n, k, colsN T i ++ [(i : Int)], startN T i, (T.take (cntR T i)).map (·.2.1), (T.take (cntR T i)).map (·.2.2)) = some (.inl (n, k, colsN T i ++ [(i : Int)], startN T i, (T.take (cntR T (i + 1))).map (·.2.1), (T.take (cntR T (i + 1))).map (·.2.2))) := by
     rw [take_cnt hT]
     have e2 : rowI T (i : Int) = (rowI T (i : Int)).take (rowI T (i : Int)).length := by rw [List.take_length]
     refine loop_stop (rowI T (i : Int)).length (fun x => ((x : Int), n, k, colsN T i ++ [(i : Int)], startN T i, (T.take (cntR T i) ++ (rowI T (i : Int)).take x).map (·.2.1), (T.take (cntR T i) ++ (rowI T (i : Int)).take x).map (·.2.2))) ?_ (fun x hx => ?_) ?_
     ·simp
     ·have a1 : atL ((rowI T (i : Int)).map pr2) (x : Int) = some (pr2 (rowI T (i : Int))[x]) := atL_some' (by rw [List.getElem?_map, List.getElem?_eq_getElem hx]; rfl)
      simp only [ref08_Of_b1, a1, Option.bind_some]
      rw [if_pos (by rw [List.length_map]; omega), app_ok (by simp; unfold bound; omega), app_ok (by simp; unfold bound; omega), w_succ hx (by omega), List.take_succ_eq_append_getElem hx]
      simp only [List.map_append, List.map_cons, List.map_nil, List.append_assoc]
      rfl
     ·simp only [ref08_Of_b1]
      rw [if_neg (by rw [List.length_map]; omega), List.take_length]
    rw [q2]
    simp only [Option.bind_some, Sum.elim_inl]
    rw [app_ok (by simp; unfold bound; omega), show neL (colsN T i ++ [(i : Int)]) = some () by unfold neL; cases colsN T i <;> rfl]
    simp only [Option.bind_some]
    rw [colsN_succ, startN_succ, if_pos hne, if_pos hne, List.length_map, List.length_take, Nat.min_eq_left hcle]
  ·simp only [ref08_Of_b2]
   rw [t2.e1, if_neg (by omega)]
 rw [q]
 refine ⟨_, rfl, h.hn, hk, hlen, hT, fun x hx => t2.p x hx, fun x hx => t2.v x hx, rfl, rfl, mo_l _ _, rfl, mo_l _ _, mo_l _ _, ok_mo _, .inr rfl, ok_mo _, ok_mo _⟩
end
theorem m0_is : Is ((2 : Int), (1000 : Int), (⟨true, 1, [0, 0, 1]⟩ : Sl Int), (⟨true, 1, [700]⟩ : Sl Int), (⟨true, 1, [4]⟩ : Sl Int)) 2 1000 [(1, 700, 4)] :=
 ⟨by omega, by omega, by simp, by simp, by simp, by simp [i64r], rfl, rfl, by decide, rfl, rfl, .inr rfl, .inr rfl, .inr rfl⟩
theorem t0_eq : turnL [((1 : Int), (700 : Int), (4 : Int))] = [(700, 1, 4)] := by unfold turnL; simp [flip3]
theorem cnt0 (j : Nat) : cntR [((700 : Int), (1 : Int), (4 : Int))] j = if 700 < j then 1 else 0 := by
 unfold cntR
 rw [List.countP_cons, List.countP_nil]
 by_cases h : 700 < j
 ·rw [if_pos (by simp; omega), if_pos h]
 ·rw [if_neg (by simp; omega), if_neg h]
theorem ne0 (j : Nat) : neC [((700 : Int), (1 : Int), (4 : Int))] j = true ↔ j = 700 := by
 unfold neC
 rw [cnt0, cnt0, decide_eq_true_eq]
 split <;> split <;> omega
theorem cols0 : colsN [((700 : Int), (1 : Int), (4 : Int))] 1000 = [700] := by
 refine asc_ext (cols_asc _) (by simp) fun x => ?_
 rw [cols_mem, List.mem_singleton]
 constructor
 ·rintro ⟨j, rfl, _, h2⟩
  have := (ne0 j).1 h2
  omega
 ·rintro rfl
  exact ⟨700, rfl, by omega, (ne0 700).2 rfl⟩
theorem start0 : startN [((700 : Int), (1 : Int), (4 : Int))] 1000 = [0, 1] := by
 have h := (start_at (T := [((700 : Int), (1 : Int), (4 : Int))]) (by simp) 1000 0 700 (by rw [cols0]; rfl)).2
 have hl := start_len (T := [((700 : Int), (1 : Int), (4 : Int))]) 1000
 rw [cols0] at hl
 rw [cnt0, cnt0] at h
 refine List.ext_getElem? fun i => ?_
 rcases i with _ | _ | i
 ·exact h.1
 ·exact h.2
 ·rw [List.getElem?_eq_none (by rw [hl]; simp), List.getElem?_eq_none (by simp)]
theorem L_Of_m0 : K.dcsc_Of ((2 : Int), (1000 : Int), (⟨true, 1, [0, 0, 1]⟩ : Sl Int), (⟨true, 1, [700]⟩ : Sl Int), (⟨true, 1, [4]⟩ : Sl Int)) = some ((2 : Int), (1000 : Int), (⟨true, 1, [700]⟩ : Sl Int), (⟨true, 1, [0, 1]⟩ : Sl Int), (⟨true, 1, [1]⟩ : Sl Int), (⟨true, 1, [4]⟩ : Sl Int)) := by
 rw [dcsc_Of_x m0_is, t0_eq]
 unfold colV
 rw [show (1000 : Int).toNat = 1000 from rfl, cols0, start0]
 rfl
theorem c0_is : IsC ((2 : Int), (1000 : Int), (⟨true, 1, [700]⟩ : Sl Int), (⟨true, 1, [0, 1]⟩ : Sl Int), (⟨true, 1, [1]⟩ : Sl Int), (⟨true, 1, [4]⟩ : Sl Int)) 2 1000 [(700, 1, 4)] :=
 ⟨by omega, by omega, by simp, by simp, by simp, by simp [i64r], rfl, rfl, cols0.symm, start0.symm, rfl, rfl, .inr rfl, .inr rfl, .inr rfl, .inr rfl⟩
theorem t1_eq : turnL [((700 : Int), (1 : Int), (4 : Int))] = [(1, 700, 4)] := by unfold turnL; simp [flip3]
theorem L_Back_c0 : K.dcsc_Back ((2 : Int), (1000 : Int), (⟨true, 1, [700]⟩ : Sl Int), (⟨true, 1, [0, 1]⟩ : Sl Int), (⟨true, 1, [1]⟩ : Sl Int), (⟨true, 1, [4]⟩ : Sl Int)) = some ((2 : Int), (1000 : Int), (⟨true, 1, [0, 0, 1]⟩ : Sl Int), (⟨true, 1, [700]⟩ : Sl Int), (⟨true, 1, [4]⟩ : Sl Int)) := by
 refine (dcsc_Back_x c0_is).trans ?_
 rw [t1_eq]
 rfl
end Ev
end Go.Proofs.Ytlkcneneagifoaa
end
section
namespace Go.Proofs.Ytlkcneneagifoaa
namespace Ev
namespace K
open Go Go.RowKit
set_option linter.unusedVariables false
set_option linter.unusedSimpArgs false
set_option maxRecDepth 100000
set_option maxHeartbeats 1000000
theorem dcsc_Of_m0 : dcsc_Of ((2 : Int), (1000 : Int), (⟨true, 1, [0, 0, 1]⟩ : Sl Int), (⟨true, 1, [700]⟩ : Sl Int), (⟨true, 1, [4]⟩ : Sl Int)) = some ((2 : Int), (1000 : Int), (⟨true, 1, [700]⟩ : Sl Int), (⟨true, 1, [0, 1]⟩ : Sl Int), (⟨true, 1, [1]⟩ : Sl Int), (⟨true, 1, [4]⟩ : Sl Int)) := L_Of_m0
theorem dcsc_Back_c0 : dcsc_Back ((2 : Int), (1000 : Int), (⟨true, 1, [700]⟩ : Sl Int), (⟨true, 1, [0, 1]⟩ : Sl Int), (⟨true, 1, [1]⟩ : Sl Int), (⟨true, 1, [4]⟩ : Sl Int)) = some ((2 : Int), (1000 : Int), (⟨true, 1, [0, 0, 1]⟩ : Sl Int), (⟨true, 1, [700]⟩ : Sl Int), (⟨true, 1, [4]⟩ : Sl Int)) := L_Back_c0
theorem runs_of {E : Env} {k : FuncId} {ins ts : List TyD} {f : vals ins → Option (vals ts)} {d n N : Nat} (ok : EntryOk E ⟨k, ins, .data true ts, f, d⟩) (hn : n + d = N) {a : vals ins} {out : vals ts} (h : f a = some out) {x y : List TD} (hx : x = tdsOf ins a) (hy : y = tdsOf ts out) : RunsP E N k x (.fresh, y) := by
 subst hx hy hn
 exact ok n a out h
theorem runV46 : RunsP E1 60 46 [.agg [.v (.int .i64 2), .v (.int .i64 1000), .s true 1 [[.v (.int .i64 0)], [.v (.int .i64 0)], [.v (.int .i64 1)]], .s true 1 [[.v (.int .i64 700)]], .s true 1 [[.v (.int .i64 4)]]]] (.fresh, [.agg [.v (.int .i64 2), .v (.int .i64 1000), .s true 1 [[.v (.int .i64 700)]], .s true 1 [[.v (.int .i64 0)], [.v (.int .i64 1)]], .s true 1 [[.v (.int .i64 1)]], .s true 1 [[.v (.int .i64 4)]]]]) := runs_of (n := 44) dcsc_Of_ok rfl dcsc_Of_m0 rfl rfl
theorem runV50 : RunsP E1 60 50 [.agg [.v (.int .i64 2), .v (.int .i64 1000), .s true 1 [[.v (.int .i64 700)]], .s true 1 [[.v (.int .i64 0)], [.v (.int .i64 1)]], .s true 1 [[.v (.int .i64 1)]], .s true 1 [[.v (.int .i64 4)]]]] (.fresh, [.agg [.v (.int .i64 2), .v (.int .i64 1000), .s true 1 [[.v (.int .i64 0)], [.v (.int .i64 0)], [.v (.int .i64 1)]], .s true 1 [[.v (.int .i64 700)]], .s true 1 [[.v (.int .i64 4)]]]]) := runs_of (n := 44) dcsc_Back_ok rfl dcsc_Back_c0 rfl rfl
theorem axV_ok : AxOk Try.prog axV := axOk_add (axOk_add inlAx_ok (memV runV46 entV46)) (memV runV50 entV50)
theorem EV_ok : EV.Ok := envOf_ok mixed0 names0 axV_ok
theorem liveV_ax : ∀ vs kind rs, liveF vs = some (kind, rs) → PureOk Try.prog 42 vs kind rs ∧ Ev.Enters Try.prog 42 := fun vs kind rs hf => by
 unfold liveF at hf
 split at hf
 ·simp only [Option.some.injEq, Prod.mk.injEq] at hf
  obtain ⟨rfl, rfl⟩ := hf
  exact (callers_ok EV_ok 300 60).1 _ _ _ _ liveV
 ·simp at hf
end K
end Ev
end Go.Proofs.Ytlkcneneagifoaa
end
section
namespace Go.Proofs.Ytlkcneneagifoaa
namespace Ev
namespace K
open Go Go.RowKit
set_option linter.unusedVariables false
set_option linter.unusedSimpArgs false
set_option maxRecDepth 100000
set_option maxHeartbeats 1000000
noncomputable def ax2 : Ax := (addAx (addAx (addAx (addAx (addAx (addAx (addAx (addAx (addAx (addAx (addAx (addAx (addAx (addAx (addAx (addAx (addAx (addAx (addAx (addAx (addAx (addAx (addAx (addAx (addAx (addAx (addAx (addAx (addAx (addAx (fun _ => none) 42 liveF) 18 (ranF E1 18)) 22 (ranF E1 22)) 23 (ranF E1 23)) 25 (ranF E1 25)) 26 (ranF E1 26)) 27 (ranF E1 27)) 31 (ranF E1 31)) 32 (ranF E1 32)) 35 (ranF E1 35)) 36 (ranF E1 36)) 39 (ranF E1 39)) 43 (ranF E1 43)) 44 (ranF E1 44)) 45 (ranF E1 45)) 46 (ranF E1 46)) 47 (ranF E1 47)) 48 (ranF E1 48)) 49 (ranF E1 49)) 50 (ranF E1 50)) 51 (ranF E1 51)) 52 (ranF E1 52)) 53 (ranF E1 53)) 54 (ranF E1 54)) 55 (ranF E1 55)) 57 (ranF E1 57)) 58 (ranF E1 58)) 59 (ranF E1 59)) 60 (ranF E1 60)) 61 (ranF E1 61))
theorem ent18 : Ev.Enters Try.prog 18 := ⟨_, _, Try.func18, by kernel_rfl, by unfold Try.f18; rfl⟩
theorem ent22 : Ev.Enters Try.prog 22 := ⟨_, _, Try.func22, by kernel_rfl, by unfold Try.f22; rfl⟩
theorem ent23 : Ev.Enters Try.prog 23 := ⟨_, _, Try.func23, by kernel_rfl, by unfold Try.f23; rfl⟩
theorem ent25 : Ev.Enters Try.prog 25 := ⟨_, _, Try.func25, by kernel_rfl, by unfold Try.f25; rfl⟩
theorem ent26 : Ev.Enters Try.prog 26 := ⟨_, _, Try.func26, by kernel_rfl, by unfold Try.f26; rfl⟩
theorem ent27 : Ev.Enters Try.prog 27 := ⟨_, _, Try.func27, by kernel_rfl, by unfold Try.f27; rfl⟩
theorem ent31 : Ev.Enters Try.prog 31 := ⟨_, _, Try.func31, by kernel_rfl, by unfold Try.f31; rfl⟩
theorem ent32 : Ev.Enters Try.prog 32 := ⟨_, _, Try.func32, by kernel_rfl, by unfold Try.f32; rfl⟩
theorem ent35 : Ev.Enters Try.prog 35 := ⟨_, _, Try.func35, by kernel_rfl, by unfold Try.f35; rfl⟩
theorem ent36 : Ev.Enters Try.prog 36 := ⟨_, _, Try.func36, by kernel_rfl, by unfold Try.f36; rfl⟩
theorem ent39 : Ev.Enters Try.prog 39 := ⟨_, _, Try.func39, by kernel_rfl, by unfold Try.f39; rfl⟩
theorem ent43 : Ev.Enters Try.prog 43 := ⟨_, _, Try.func43, by kernel_rfl, by unfold Try.f43; rfl⟩
theorem ent44 : Ev.Enters Try.prog 44 := ⟨_, _, Try.func44, by kernel_rfl, by unfold Try.f44; rfl⟩
theorem ent45 : Ev.Enters Try.prog 45 := ⟨_, _, Try.func45, by kernel_rfl, by unfold Try.f45; rfl⟩
theorem ent46 : Ev.Enters Try.prog 46 := ⟨_, _, Try.func46, by kernel_rfl, by unfold Try.f46; rfl⟩
theorem ent47 : Ev.Enters Try.prog 47 := ⟨_, _, Try.func47, by kernel_rfl, by unfold Try.f47; rfl⟩
theorem ent48 : Ev.Enters Try.prog 48 := ⟨_, _, Try.func48, by kernel_rfl, by unfold Try.f48; rfl⟩
theorem ent49 : Ev.Enters Try.prog 49 := ⟨_, _, Try.func49, by kernel_rfl, by unfold Try.f49; rfl⟩
theorem ent50 : Ev.Enters Try.prog 50 := ⟨_, _, Try.func50, by kernel_rfl, by unfold Try.f50; rfl⟩
theorem ent51 : Ev.Enters Try.prog 51 := ⟨_, _, Try.func51, by kernel_rfl, by unfold Try.f51; rfl⟩
theorem ent52 : Ev.Enters Try.prog 52 := ⟨_, _, Try.func52, by kernel_rfl, by unfold Try.f52; rfl⟩
theorem ent53 : Ev.Enters Try.prog 53 := ⟨_, _, Try.func53, by kernel_rfl, by unfold Try.f53; rfl⟩
theorem ent54 : Ev.Enters Try.prog 54 := ⟨_, _, Try.func54, by kernel_rfl, by unfold Try.f54; rfl⟩
theorem ent55 : Ev.Enters Try.prog 55 := ⟨_, _, Try.func55, by kernel_rfl, by unfold Try.f55; rfl⟩
theorem ent57 : Ev.Enters Try.prog 57 := ⟨_, _, Try.func57, by kernel_rfl, by unfold Try.f57; rfl⟩
theorem ent58 : Ev.Enters Try.prog 58 := ⟨_, _, Try.func58, by kernel_rfl, by unfold Try.f58; rfl⟩
theorem ent59 : Ev.Enters Try.prog 59 := ⟨_, _, Try.func59, by kernel_rfl, by unfold Try.f59; rfl⟩
theorem ent60 : Ev.Enters Try.prog 60 := ⟨_, _, Try.func60, by kernel_rfl, by unfold Try.f60; rfl⟩
theorem ent61 : Ev.Enters Try.prog 61 := ⟨_, _, Try.func61, by kernel_rfl, by unfold Try.f61; rfl⟩
theorem ax2_ok : AxOk Try.prog ax2 := (axOk_add (axOk_add (axOk_add (axOk_add (axOk_add (axOk_add (axOk_add (axOk_add (axOk_add (axOk_add (axOk_add (axOk_add (axOk_add (axOk_add (axOk_add (axOk_add (axOk_add (axOk_add (axOk_add (axOk_add (axOk_add (axOk_add (axOk_add (axOk_add (axOk_add (axOk_add (axOk_add (axOk_add (axOk_add (axOk_add (axOk_none _) liveV_ax) (ranF_ok E1_ok ent18)) (ranF_ok E1_ok ent22)) (ranF_ok E1_ok ent23)) (ranF_ok E1_ok ent25)) (ranF_ok E1_ok ent26)) (ranF_ok E1_ok ent27)) (ranF_ok E1_ok ent31)) (ranF_ok E1_ok ent32)) (ranF_ok E1_ok ent35)) (ranF_ok E1_ok ent36)) (ranF_ok E1_ok ent39)) (ranF_ok E1_ok ent43)) (ranF_ok E1_ok ent44)) (ranF_ok E1_ok ent45)) (ranF_ok E1_ok ent46)) (ranF_ok E1_ok ent47)) (ranF_ok E1_ok ent48)) (ranF_ok E1_ok ent49)) (ranF_ok E1_ok ent50)) (ranF_ok E1_ok ent51)) (ranF_ok E1_ok ent52)) (ranF_ok E1_ok ent53)) (ranF_ok E1_ok ent54)) (ranF_ok E1_ok ent55)) (ranF_ok E1_ok ent57)) (ranF_ok E1_ok ent58)) (ranF_ok E1_ok ent59)) (ranF_ok E1_ok ent60)) (ranF_ok E1_ok ent61))
noncomputable def E2 : Env := envOf Try.prog ax2
theorem E2_ok : E2.Ok := envOf_ok mixed0 names0 ax2_ok
theorem TT2_ok : AllT E2 TT := TT_ok
theorem EQS2_ok : AllQ E2.P EQS := EQS_ok
theorem ref07_Same_ok2 : EntryOk E2 (entF ref07_Same_E) := entF_ok ref07_Same_ok (by decide) (by kernel_rfl)
theorem ref07_Right_ok2 : EntryOk E2 (entF ref07_Right_E) := entF_ok ref07_Right_ok (by decide) (by kernel_rfl)
theorem ref07_SameItems_ok2 : EntryOk E2 (entF ref07_SameItems_E) := entF_ok ref07_SameItems_ok (by decide) (by kernel_rfl)
theorem ref07_Row_ok2 : EntryOk E2 (entF ref07_Row_E) := entF_ok ref07_Row_ok (by decide) (by kernel_rfl)
theorem ref07_Turn_ok2 : EntryOk E2 (entF ref07_Turn_E) := entF_ok ref07_Turn_ok (by decide) (by kernel_rfl)
theorem law07_Some_ok2 : EntryOk E2 (entF law07_Some_E) := entF_ok law07_Some_ok (by decide) (by kernel_rfl)
theorem dcsc_Column_ok2 : EntryOk E2 (entF dcsc_Column_E) := entF_ok dcsc_Column_ok (by decide) (by kernel_rfl)
theorem ref08_Column_ok2 : EntryOk E2 (entF ref08_Column_E) := entF_ok ref08_Column_ok (by decide) (by kernel_rfl)
theorem ref08_Same_ok2 : EntryOk E2 (entF ref08_Same_E) := entF_ok ref08_Same_ok (by decide) (by kernel_rfl)
theorem dcsc_Of_ok2 : EntryOk E2 (entF dcsc_Of_E) := entF_ok dcsc_Of_ok (by decide) (by kernel_rfl)
theorem ref08_Of_ok2 : EntryOk E2 (entF ref08_Of_E) := entF_ok ref08_Of_ok (by decide) (by kernel_rfl)
theorem dcsc_Right_ok2 : EntryOk E2 (entF dcsc_Right_E) := entF_ok dcsc_Right_ok (by decide) (by kernel_rfl)
theorem ref08_Right_ok2 : EntryOk E2 (entF ref08_Right_E) := entF_ok ref08_Right_ok (by decide) (by kernel_rfl)
theorem dcsc_Back_ok2 : EntryOk E2 (entF dcsc_Back_E) := entF_ok dcsc_Back_ok (by decide) (by kernel_rfl)
theorem ref08_Back_ok2 : EntryOk E2 (entF ref08_Back_E) := entF_ok ref08_Back_ok (by decide) (by kernel_rfl)
theorem dcsc_Many_ok2 : EntryOk E2 (entF dcsc_Many_E) := entF_ok dcsc_Many_ok (by decide) (by kernel_rfl)
theorem ref08_Sure_ok2 : EntryOk E2 (entF ref08_Sure_E) := entF_ok ref08_Sure_ok (by decide) (by kernel_rfl)
theorem dcsc_Count_ok2 : EntryOk E2 (entF dcsc_Count_E) := entF_ok dcsc_Count_ok (by decide) (by kernel_rfl)
theorem dcsc_Work_ok2 : EntryOk E2 (entF dcsc_Work_E) := entF_ok dcsc_Work_ok (by decide) (by kernel_rfl)
theorem dcsc_Same_ok2 : EntryOk E2 (entF dcsc_Same_E) := entF_ok dcsc_Same_ok (by decide) (by kernel_rfl)
noncomputable def FL42 : vals [] → Option Bool := fun _ => some true
noncomputable def FL42_E : Entry := ⟨42, [], .data true [(false, .B)], FL42, 1⟩
theorem FL42_ok : EntryOk E2 FL42_E := fun m a out h => by
 obtain rfl := Option.some.inj h
 exact runsP_ax (F := liveF) rfl rfl
noncomputable def fi56 : FI := fiF Try.f56
def ref08_Work_A : AnnK := [(56, ⟨[⟨false, 3, 0, [1, 2], ⟨[(5, false, [.d true (.I .i64)]), (6, false, [.d true (.I .i64)])], [], []⟩, [(.exit 0, ⟨[(5, false, [.d true (.I .i64)])], [], []⟩)]⟩], []⟩)]
noncomputable def ref08_Work_G : KG := ⟨TT, EQS, [entF ref08_Column_E], []⟩
noncomputable def ref08_Work : vals [yD0, (false, .S (.I .i64))] → Option (OutK.val (.data true [(false, .I .i64)])) := funK ref08_Work_G ref08_Work_A fi56 56 0 [yD0, (false, .S (.I .i64))] (.data true [(false, .I .i64)])
noncomputable def ref08_Work_E : Entry := ⟨56, [yD0, (false, .S (.I .i64))], .data true [(false, .I .i64)], ref08_Work, 2⟩
theorem ref08_Work_Gok : GOk ref08_Work_G E2 1 := gok E2_ok TT2_ok EQS2_ok ⟨⟨by decide, ref08_Column_ok2⟩, trivial⟩ trivial
theorem fnW56 : E2.fn 56 = some fi56 := fn_of Try.func56 (by unfold Try.f56; rfl)
theorem ref08_Work_ok : EntryOk E2 ref08_Work_E := mkE_ok ref08_Work_Gok (by kernel_rfl) fnW56 (by kernel_rfl) rfl
noncomputable def fi9 : FI := fiF Try.f9
def law08_DcscOf_A : AnnK := [(9, ⟨[⟨false, 4, 0, [2, 3, 4], ⟨[(7, false, [.d true (.I .i64)])], [], []⟩, [(.exit 0, ⟨[], [], []⟩), (.ret, ⟨[(6, false, [.d true .B])], [], []⟩)]⟩], []⟩)]
noncomputable def law08_DcscOf_G : KG := ⟨TT, EQS, [entF ref07_Same_E, entF ref07_Right_E, entF ref07_SameItems_E, FL42_E, entF dcsc_Column_E, entF ref08_Column_E, entF ref08_Same_E, entF dcsc_Of_E, entF ref08_Of_E, entF dcsc_Right_E, entF ref08_Right_E, entF dcsc_Back_E, entF ref08_Back_E, entF dcsc_Many_E, entF ref08_Sure_E, entF dcsc_Count_E, entF dcsc_Work_E, ref08_Work_E], []⟩
noncomputable def law08_DcscOf : vals [yD1, yD0, (false, .S (.I .i64))] → Option (OutK.val (.data true [(false, .B)])) := funK law08_DcscOf_G law08_DcscOf_A fi9 9 0 [yD1, yD0, (false, .S (.I .i64))] (.data true [(false, .B)])
noncomputable def law08_DcscOf_E : Entry := ⟨9, [yD1, yD0, (false, .S (.I .i64))], .data true [(false, .B)], law08_DcscOf, 3⟩
theorem law08_DcscOf_Gok : GOk law08_DcscOf_G E2 2 := gok E2_ok TT2_ok EQS2_ok ⟨⟨by decide, ref07_Same_ok2⟩, ⟨⟨by decide, ref07_Right_ok2⟩, ⟨⟨by decide, ref07_SameItems_ok2⟩, ⟨⟨by decide, FL42_ok⟩, ⟨⟨by decide, dcsc_Column_ok2⟩, ⟨⟨by decide, ref08_Column_ok2⟩, ⟨⟨by decide, ref08_Same_ok2⟩, ⟨⟨by decide, dcsc_Of_ok2⟩, ⟨⟨by decide, ref08_Of_ok2⟩, ⟨⟨by decide, dcsc_Right_ok2⟩, ⟨⟨by decide, ref08_Right_ok2⟩, ⟨⟨by decide, dcsc_Back_ok2⟩, ⟨⟨by decide, ref08_Back_ok2⟩, ⟨⟨by decide, dcsc_Many_ok2⟩, ⟨⟨by decide, ref08_Sure_ok2⟩, ⟨⟨by decide, dcsc_Count_ok2⟩, ⟨⟨by decide, dcsc_Work_ok2⟩, ⟨⟨by decide, ref08_Work_ok⟩, trivial⟩⟩⟩⟩⟩⟩⟩⟩⟩⟩⟩⟩⟩⟩⟩⟩⟩⟩ trivial
theorem fnW9 : E2.fn 9 = some fi9 := fn_of Try.func9 (by unfold Try.f9; rfl)
theorem law08_DcscOf_ok : EntryOk E2 law08_DcscOf_E := mkE_ok law08_DcscOf_Gok (by kernel_rfl) fnW9 (by kernel_rfl) rfl
noncomputable def fi10 : FI := fiF Try.f10
def law08_DcscBack_A : AnnK := []
noncomputable def law08_DcscBack_G : KG := ⟨TT, EQS, [entF ref07_Same_E, entF law07_Some_E, FL42_E, entF dcsc_Of_E, entF dcsc_Right_E, entF dcsc_Back_E, entF dcsc_Same_E], []⟩
noncomputable def law08_DcscBack : vals [yD6, yD2] → Option (OutK.val (.data true [(false, .B)])) := funK law08_DcscBack_G law08_DcscBack_A fi10 10 0 [yD6, yD2] (.data true [(false, .B)])
noncomputable def law08_DcscBack_E : Entry := ⟨10, [yD6, yD2], .data true [(false, .B)], law08_DcscBack, 2⟩
theorem law08_DcscBack_Gok : GOk law08_DcscBack_G E2 1 := gok E2_ok TT2_ok EQS2_ok ⟨⟨by decide, ref07_Same_ok2⟩, ⟨⟨by decide, law07_Some_ok2⟩, ⟨⟨by decide, FL42_ok⟩, ⟨⟨by decide, dcsc_Of_ok2⟩, ⟨⟨by decide, dcsc_Right_ok2⟩, ⟨⟨by decide, dcsc_Back_ok2⟩, ⟨⟨by decide, dcsc_Same_ok2⟩, trivial⟩⟩⟩⟩⟩⟩⟩ trivial
theorem fnW10 : E2.fn 10 = some fi10 := fn_of Try.func10 (by unfold Try.f10; rfl)
theorem law08_DcscBack_ok : EntryOk E2 law08_DcscBack_E := mkE_ok law08_DcscBack_Gok (by kernel_rfl) fnW10 (by kernel_rfl) rfl
noncomputable def fi11 : FI := fiF Try.f11
def law08_DcscTurns_A : AnnK := []
noncomputable def law08_DcscTurns_G : KG := ⟨TT, EQS, [entF ref07_SameItems_E, entF ref07_Row_E, entF ref07_Turn_E, entF law07_Some_E, FL42_E, entF dcsc_Column_E, entF dcsc_Of_E], []⟩
noncomputable def law08_DcscTurns : vals [yD6, yD2, (false, .I .u8)] → Option (OutK.val (.data true [(false, .B)])) := funK law08_DcscTurns_G law08_DcscTurns_A fi11 11 0 [yD6, yD2, (false, .I .u8)] (.data true [(false, .B)])
noncomputable def law08_DcscTurns_E : Entry := ⟨11, [yD6, yD2, (false, .I .u8)], .data true [(false, .B)], law08_DcscTurns, 2⟩
theorem law08_DcscTurns_Gok : GOk law08_DcscTurns_G E2 1 := gok E2_ok TT2_ok EQS2_ok ⟨⟨by decide, ref07_SameItems_ok2⟩, ⟨⟨by decide, ref07_Row_ok2⟩, ⟨⟨by decide, ref07_Turn_ok2⟩, ⟨⟨by decide, law07_Some_ok2⟩, ⟨⟨by decide, FL42_ok⟩, ⟨⟨by decide, dcsc_Column_ok2⟩, ⟨⟨by decide, dcsc_Of_ok2⟩, trivial⟩⟩⟩⟩⟩⟩⟩ trivial
theorem fnW11 : E2.fn 11 = some fi11 := fn_of Try.func11 (by unfold Try.f11; rfl)
theorem law08_DcscTurns_ok : EntryOk E2 law08_DcscTurns_E := mkE_ok law08_DcscTurns_Gok (by kernel_rfl) fnW11 (by kernel_rfl) rfl
noncomputable def fi12 : FI := fiF Try.f12
def law08_DcscFull_A : AnnK := [(12, ⟨[⟨false, 3, 0, [5], ⟨[(6, false, [.d true (.I .i64)])], [], []⟩, [(.exit 0, ⟨[], [], []⟩), (.ret, ⟨[(4, false, [.d true .B])], [], []⟩)]⟩], []⟩)]
noncomputable def law08_DcscFull_G : KG := ⟨TT, EQS, [entF law07_Some_E, FL42_E, entF dcsc_Column_E, entF dcsc_Of_E, entF dcsc_Many_E, entF dcsc_Count_E, entF dcsc_Work_E], []⟩
noncomputable def law08_DcscFull : vals [yD6, yD2] → Option (OutK.val (.data true [(false, .B)])) := funK law08_DcscFull_G law08_DcscFull_A fi12 12 0 [yD6, yD2] (.data true [(false, .B)])
noncomputable def law08_DcscFull_E : Entry := ⟨12, [yD6, yD2], .data true [(false, .B)], law08_DcscFull, 2⟩
theorem law08_DcscFull_Gok : GOk law08_DcscFull_G E2 1 := gok E2_ok TT2_ok EQS2_ok ⟨⟨by decide, law07_Some_ok2⟩, ⟨⟨by decide, FL42_ok⟩, ⟨⟨by decide, dcsc_Column_ok2⟩, ⟨⟨by decide, dcsc_Of_ok2⟩, ⟨⟨by decide, dcsc_Many_ok2⟩, ⟨⟨by decide, dcsc_Count_ok2⟩, ⟨⟨by decide, dcsc_Work_ok2⟩, trivial⟩⟩⟩⟩⟩⟩⟩ trivial
theorem fnW12 : E2.fn 12 = some fi12 := fn_of Try.func12 (by unfold Try.f12; rfl)
theorem law08_DcscFull_ok : EntryOk E2 law08_DcscFull_E := mkE_ok law08_DcscFull_Gok (by kernel_rfl) fnW12 (by kernel_rfl) rfl
end K
end Ev
end Go.Proofs.Ytlkcneneagifoaa
end
section
namespace Go.Proofs.Ytlkcneneagifoaa
namespace Ev
open Go Go.RowKit
noncomputable def ref08_Work (x : Int × Int × Sl (Int) × Sl (Int) × Sl (Int) × Sl (Int)) (y : Sl (Int)) : Option (Int) := K.ref08_Work (x, y)
noncomputable def law08_DcscOf (x : Int × Int × Sl (Int) × Sl (Int) × Sl (Int)) (y : Int × Int × Sl (Int) × Sl (Int) × Sl (Int) × Sl (Int)) (z : Sl (Int)) : Option (Bool) := K.law08_DcscOf (x, y, z)
noncomputable def law08_DcscBack (x : Int × Int) (y : Sl (Int × Int × Int)) : Option (Bool) := K.law08_DcscBack (x, y)
noncomputable def law08_DcscTurns (x : Int × Int) (y : Sl (Int × Int × Int)) (z : Int) : Option (Bool) := K.law08_DcscTurns (x, y, z)
noncomputable def law08_DcscFull (x : Int × Int) (y : Sl (Int × Int × Int)) : Option (Bool) := K.law08_DcscFull (x, y)
noncomputable def dcsc_Of (x : Int × Int × Sl (Int) × Sl (Int) × Sl (Int)) : Option (Int × Int × Sl (Int) × Sl (Int) × Sl (Int) × Sl (Int)) := K.dcsc_Of x
noncomputable def FL42  : Option (Bool) := K.FL42 ()
end Ev
end Go.Proofs.Ytlkcneneagifoaa
end
section
namespace Go.Proofs.Ytlkcneneagifoaa
namespace Ev
open Go Go.RowKit
set_option linter.unusedVariables false
set_option maxRecDepth 100000
set_option maxHeartbeats 1000000
noncomputable def ref08_Work_b1 (x : yC) (y : Sl Int) : Int × Int → Option (Int × Int ⊕ Int ⊕ Empty) := fun (x_1 : Int × Int) => if x_1.snd < (↑y.l.length : Int) then (atS 1 y x_1.snd).bind fun (y : Int) => ((ref08_Column x y).map fun x => (mo 2 x)).bind fun (out : Sl (Int × Int)) => some (Sum.inl (IntKind.i64.wrap (x_1.fst + (↑out.l.length : Int)), IntKind.i64.wrap (x_1.snd + 1))) else some (Sum.inr (Sum.inl x_1.fst))
theorem ref08_Work_eq (x : yC) (y : Sl Int) : ref08_Work x y = (loopO (ref08_Work_b1 x y) (0, 0)).bind fun (y : Int ⊕ Empty) => Sum.elim (fun (val : Int) => some val) (fun (val : Empty) => nE val) y := by kernel_rfl
noncomputable def law08_DcscOf_b1 (y : yC) (z : Sl Int) : Int → Option (Int ⊕ PUnit ⊕ Bool ⊕ Empty) := fun (x : Int) => if x < (↑z.l.length : Int) then (atS 1 z x).bind fun (y_1 : Int) => ((dcsc_Column y y_1).map fun x => { nn := true, sz := 2, l := x }).bind fun (out : Sl (Int × Int)) => (atS 1 z x).bind fun (y_2 : Int) => ((ref08_Column y y_2).map fun x => (mo 2 x)).bind fun (out_1 : Sl (Int × Int)) => ((ref07_SameItems out out_1).map fun x => x).bind fun (out : Bool) => if ¬out = true then some (Sum.inr (Sum.inr (Sum.inl false))) else some (Sum.inl (IntKind.i64.wrap (x + 1))) else some (Sum.inr (Sum.inl ()))
noncomputable def law08_DcscOf_b2 (y : yC) (z : Sl Int) : Int → Option (Int ⊕ PUnit ⊕ Bool ⊕ Empty) := fun (x : Int) => if x < (↑z.l.length : Int) then (atS 1 z x).bind fun (y_1 : Int) => ((dcsc_Column y y_1).map fun x => { nn := true, sz := 2, l := x }).bind fun (out : Sl (Int × Int)) => (atS 1 z x).bind fun (y_2 : Int) => ((ref08_Column y y_2).map fun x => (mo 2 x)).bind fun (out_1 : Sl (Int × Int)) => ((ref07_SameItems out out_1).map fun x => x).bind fun (out : Bool) => if ¬out = true then some (Sum.inr (Sum.inr (Sum.inl false))) else some (Sum.inl (IntKind.i64.wrap (x + 1))) else some (Sum.inr (Sum.inl ()))
theorem law08_DcscOf_eq (x : yM) (y : yC) (z : Sl Int) : law08_DcscOf x y z = if (↑x.snd.snd.fst.l.length : Int) > 50 then FL42.bind fun (out : Bool) => some (decide (out = true))
else if (↑x.snd.snd.snd.fst.l.length : Int) > 60 then FL42.bind fun (out : Bool) => some (decide (out = true)) else if (↑x.snd.snd.snd.snd.l.length : Int) > 60 then FL42.bind fun (out : Bool) => some (decide (out = true)) else if (↑y.snd.snd.fst.l.length : Int) > 50 then FL42.bind fun (out : Bool) => some (decide (out = true)) else if (↑y.snd.snd.snd.fst.l.length : Int) > 50 then FL42.bind fun (out : Bool) => some (decide (out = true)) else if (↑y.snd.snd.snd.snd.fst.l.length : Int) > 60 then FL42.bind fun (out : Bool) => some (decide (out = true)) else if (↑y.snd.snd.snd.snd.snd.l.length : Int) > 60 then FL42.bind fun (out : Bool) => some (decide (out = true)) else if (↑z.l.length : Int) > 20 then FL42.bind fun (out : Bool) => some (decide (out = true)) else if x.snd.fst > 300 then ((ref07_Right x).map fun x => x).bind fun (out : Bool) => if out = true then FL42.bind fun (out : Bool) => some (decide (out = true)) else (loopO (law08_DcscOf_b1 y z) 0).bind fun (y_1 : PUnit ⊕ Bool ⊕ Empty) => Sum.elim (fun (val : PUnit) => FL42.bind fun (out : Bool) => if out = true then ((dcsc_Of x).map fun x => x).bind fun (out : yC) => ((ref08_Of x).map fun x => x).bind fun (out_1 : yC) => ((ref08_Same out out_1).map fun x => x).bind fun (out : Bool) => if out = true then ((dcsc_Right y).map fun x => x).bind fun (out : Bool) => ((ref08_Right y).map fun x => x).bind fun (out_2 : Bool) => if decide (out = true) = decide (out_2 = true) then ((dcsc_Back y).map fun x => x).bind fun (out : yM) => ((ref08_Back y).map fun x => x).bind fun (out_3 : yM) => ((ref07_Same out out_3).map fun x => x).bind fun (out : Bool) => if out = true then ((dcsc_Many y).map fun x => x).bind fun (out : Int) => ((ref08_Sure y).map fun x => x).bind fun (out_4 : yC) => if out = (↑out_4.snd.snd.fst.l.length : Int) then ((dcsc_Count y).map fun x => x).bind fun (out : Int) => ((ref08_Sure y).map fun x => x).bind fun (out_5 : yC) => if out = (↑out_5.snd.snd.snd.snd.fst.l.length : Int) then ((dcsc_Work y z).map fun x => x).bind fun (out : Int) => (ref08_Work y z).bind fun (out_6 : Int) => some (decide (out = out_6)) else some false else some false else some false else some false else some false else some false) (fun (val : Bool ⊕ Empty) => Sum.elim (fun (val : Bool) => some val) (fun (val : Empty) => nE val) val) y_1 else (loopO (law08_DcscOf_b2 y z) 0).bind fun (y_1 : PUnit ⊕ Bool ⊕ Empty) => Sum.elim (fun (val : PUnit) => FL42.bind fun (out : Bool) => if out = true then ((dcsc_Of x).map fun x => x).bind fun (out : yC) => ((ref08_Of x).map fun x => x).bind fun (out_1 : yC) => ((ref08_Same out out_1).map fun x => x).bind fun (out : Bool) => if out = true then ((dcsc_Right y).map fun x => x).bind fun (out : Bool) => ((ref08_Right y).map fun x => x).bind fun (out_2 : Bool) => if decide (out = true) = decide (out_2 = true) then ((dcsc_Back y).map fun x => x).bind fun (out : yM) => ((ref08_Back y).map fun x => x).bind fun (out_3 : yM) => ((ref07_Same out out_3).map fun x => x).bind fun (out : Bool) => if out = true then ((dcsc_Many y).map fun x => x).bind fun (out : Int) => ((ref08_Sure y).map fun x => x).bind fun (out_4 : yC) => if out = (↑out_4.snd.snd.fst.l.length : Int) then ((dcsc_Count y).map fun x => x).bind fun (out : Int) => ((ref08_Sure y).map fun x => x).bind fun (out_5 : yC) => if out = (↑out_5.snd.snd.snd.snd.fst.l.length : Int) then ((dcsc_Work y z).map fun x => x).bind fun (out : Int) => (ref08_Work y z).bind fun (out_6 : Int) => some (decide (out = out_6)) else some false else some false else some false else some false else some false else some false) (fun (val : Bool ⊕ Empty) => Sum.elim (fun (val : Bool) => some val) (fun (val : Empty) => nE val) val) y_1 := by kernel_rfl
theorem law08_DcscBack_eq (x : Int × Int) (y : Sl yT) : law08_DcscBack x y = ((law07_Some x y).map fun x => x).bind fun (out : yM) => ((dcsc_Of out).map fun x => x).bind fun (out_1 : yC) => FL42.bind fun (out_2 : Bool) => if out_2 = true then ((dcsc_Right out_1).map fun x => x).bind fun (out_3 : Bool) => if out_3 = true then ((dcsc_Back out_1).map fun x => x).bind fun (out_4 : yM) => ((ref07_Same out_4 out).map fun x => x).bind fun (out : Bool) => if out = true then ((dcsc_Back out_1).map fun x => x).bind fun (out : yM) => ((dcsc_Of out).map fun x => x).bind fun (out : yC) => ((dcsc_Same out out_1).map fun x => x).bind fun (out : Bool) => some (decide (out = true)) else some false else some false else some false := by kernel_rfl
theorem law08_DcscTurns_eq (x : Int × Int) (y : Sl yT) (z : Int) : law08_DcscTurns x y z = ((law07_Some x y).map fun x => x).bind fun (out : yM) => FL42.bind fun (out_1 : Bool) => if out_1 = true then ((dcsc_Of out).map fun x => x).bind fun (out_2 : yC) => ((dcsc_Column out_2 (IntKind.i64.wrap z)).map fun x => { nn := true, sz := 2, l := x }).bind fun (out_3 : Sl (Int × Int)) => ((ref07_Turn out).map fun x => x).bind fun (out : yM) => ((ref07_Row out (IntKind.i64.wrap z)).map fun x => (mo 2 x)).bind fun (out : Sl (Int × Int)) => ((ref07_SameItems out_3 out).map fun x => x).bind fun (out : Bool) => some (decide (out = true)) else some false := by kernel_rfl
noncomputable def law08_DcscFull_b1 (out : yC) : Int → Option (Int ⊕ PUnit ⊕ Bool ⊕ Empty) := fun (x : Int) => if x < (↑out.snd.snd.fst.l.length : Int) then (atS 1 out.snd.snd.fst x).bind fun (y : Int) => ((dcsc_Column out y).map fun x => { nn := true, sz := 2, l := x }).bind fun (out : Sl (Int × Int)) => if (↑out.l.length : Int) = 0 then some (Sum.inr (Sum.inr (Sum.inl false))) else some (Sum.inl (IntKind.i64.wrap (x + 1))) else some (Sum.inr (Sum.inl ()))
theorem law08_DcscFull_eq (x : Int × Int) (y : Sl yT) : law08_DcscFull x y = ((law07_Some x y).map fun x => x).bind fun (out : yM) => ((dcsc_Of out).map fun x => x).bind fun (out : yC) => (loopO (law08_DcscFull_b1 out) 0).bind fun (y : PUnit ⊕ Bool ⊕ Empty) => Sum.elim (fun (val : PUnit) => FL42.bind fun (out_1 : Bool) => if out_1 = true then ((dcsc_Many out).map fun x => x).bind fun (out_2 : Int) => ((dcsc_Count out).map fun x => x).bind fun (out_3 : Int) => if out_2 ≤ out_3 then ((dcsc_Work out out.snd.snd.fst).map fun x => x).bind fun (out_4 : Int) => ((dcsc_Count out).map fun x => x).bind fun (out : Int) => some (decide (out_4 = out)) else some false else some false) (fun (val : Bool ⊕ Empty) => Sum.elim (fun (val : Bool) => some val) (fun (val : Empty) => nE val) val) y := by kernel_rfl
end Ev
end Go.Proofs.Ytlkcneneagifoaa
end
