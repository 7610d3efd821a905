/- Texts of a claim, joined. -/
import Derived.Test.YtlkcneneagifoaaZC15
import Derived.Test.YtlkcneneagifoaaZC14
set_option linter.unusedVariables false
set_option linter.unusedSimpArgs false
section
namespace Go.Proofs.Ytlkcneneagifoaa
namespace Ev
open Go Sm
set_option linter.unusedVariables false
set_option linter.unusedSimpArgs false
section
variable {m a : Mx} {n k : Int} {l T : List E3} {c q : Cx}
theorem Of_is (h : Is m n k l) : ∃ q, dcsc_Of m = some q ∧ IsC q n k (turnL l) := dcsc_Of_is h
theorem live8 : FL42 = some true := rfl
theorem decT : some (decide (true = true)) = some true := congrArg some (decide_eq_true rfl)
theorem Turn_sure8 (h : csr_sure m = some a) (ha : Is a n k l) : csr_Turn m = csr_Turn a := by rw [csr_Turn_eq, csr_Turn_eq, csr_sure_same h ha]
theorem rTurn_sure8 (h : ref07_Sure m = some a) (ha : Is a n k l) : ref07_Turn m = ref07_Turn a := by rw [ref07_Turn_eq, ref07_Turn_eq, ref07_Sure_same h ha]
theorem Of_sure (h : csr_sure m = some a) (ha : Is a n k l) : dcsc_Of m = dcsc_Of a := by
 have e : L2.csr_Turn m = L2.csr_Turn a := Turn_sure8 h ha
 obtain ⟨m1, m2, m3, m4, m5⟩ := m
 obtain ⟨a1, a2, a3, a4, a5⟩ := a
 show K.dcsc_Of _ = K.dcsc_Of _
 unfold K.dcsc_Of L2.dcsc_Of
 simp only [e]
theorem rOf_sure (h : ref07_Sure m = some a) (ha : Is a n k l) : ref08_Of m = ref08_Of a := by rw [ref08_Of_eq, ref08_Of_eq, rTurn_sure8 h ha]
theorem ref_same8 {b : Mx} (ha : Is a n k l) (hb : Is b n k l) : ref07_Same a b = some true := by
 rw [ref07_Same_w ha.mok hb.mok, ha.e1, hb.e1, ha.e2, hb.e2, ha.e3, hb.e3, ha.e4, hb.e4, ha.e5, hb.e5]
 simp
theorem okM_of8 {x : Mx} (h : K.W (.C (.I .i64) (.C (.I .i64) (.C (.S (.I .i64)) (.C (.S (.I .i64)) (.S (.I .i64)))))) x) : OkM x := by
 obtain ⟨h1, h2, h3, h4, h5⟩ := h
 refine ⟨.inr h3.1, .inr h4.1, .inr h5.1, fun y hy => i64r_of (h5.2.2.2 y hy), ?_, ?_, ?_⟩
 ·have := h3.2.2.1; unfold maxLen at this; omega
 ·have := h4.2.2.1; unfold maxLen at this; omega
 ·have := h5.2.2.1; unfold maxLen at this; omega
theorem okC_of {x : Cx} (h : K.W (.C (.I .i64) (.C (.I .i64) (.C (.S (.I .i64)) (.C (.S (.I .i64)) (.C (.S (.I .i64)) (.S (.I .i64))))))) x) (hl : x.2.2.1.l.length ≤ 4096) (hs : x.2.2.2.1.l.length ≤ 4096) (hr : x.2.2.2.2.1.l.length ≤ 4096) (hv : x.2.2.2.2.2.l.length ≤ 4096) : OkC x := by
 obtain ⟨h1, h2, h3, h4, h5, h6⟩ := h
 exact ⟨.inr h3.1, .inr h4.1, .inr h5.1, .inr h6.1, fun y hy => i64r_of (h6.2.2.2 y hy), hl, by omega, by omega, by omega⟩
theorem items_same {z : List (Int × Int)} (h : z.length ≤ 9223372036854775806) : ref07_SameItems ⟨true, 2, z⟩ (mo 2 z) = some true := by
 rw [SameItems_w h (.inr rfl) (ok_mo _), mo_l]
 exact congrArg some (decide_eq_true rfl)
theorem cols_le (h0 : ∀ x ∈ T, 0 ≤ x.1) : ∀ n : Nat, (colsN T n).length ≤ cntR T n
 | 0 => by simp [colsN]
 | n + 1 => by
  have ih := cols_le h0 n
  rw [colsN_succ]
  have hc := cnt_succ T n
  by_cases h : neC T n = true
  ·have h1 : cntR T n < cntR T (n + 1) := by simpa [neC] using h
   rw [if_pos h, List.length_append, List.length_singleton]
   omega
  ·rw [if_neg h, List.append_nil]
   omega
theorem work_all (h0 : ∀ x ∈ T, 0 ≤ x.1) : ∀ n : Nat, workN T (colsN T n) = cntR T n
 | 0 => by rw [cnt_zero h0]; rfl
 | n + 1 => by
  have ih := work_all h0 n
  rw [colsN_succ]
  have hc := cnt_succ T n
  by_cases h : neC T n = true
  ·rw [if_pos h, workN_app, ih, hc]
  ·have h1 : ¬ cntR T n < cntR T (n + 1) := by simpa [neC] using h
   rw [if_neg h, List.append_nil, ih]
   omega
theorem IsC.top (h : IsC c n k T) : cntR T k.toNat = T.length := cntR_top (fun x hx => (h.p x hx).1.2) (by have := h.hk; omega)
theorem dcsc_sure_same (h : dcsc_sure c = some q) (hq : IsC q n k T) : dcsc_sure q = dcsc_sure c := by rw [h, dcsc_sure_is hq]
theorem ref08_Sure_same (h : ref08_Sure c = some q) (hq : IsC q n k T) : ref08_Sure q = ref08_Sure c := by rw [h, ref08_Sure_is hq]
theorem Column_sure (h : dcsc_sure c = some q) (hq : IsC q n k T) (y : Int) : dcsc_Column c y = some ((rowI T y).map pr2) := by
 rw [← dcsc_Column_is hq y, dcsc_Column_eq, dcsc_Column_eq, dcsc_sure_same h hq]
theorem rColumn_sure (h : ref08_Sure c = some q) (hq : IsC q n k T) (y : Int) : ref08_Column c y = some ((rowI T y).map pr2) := by
 rw [← ref08_Column_is hq y, ref08_Column_eq, ref08_Column_eq, ref08_Sure_same h hq]
theorem Many_sure (h : dcsc_sure c = some q) (hq : IsC q n k T) : dcsc_Many c = some (q.2.2.1.l.length : Int) := by
 rw [← dcsc_Many_is hq, dcsc_Many_eq, dcsc_Many_eq, dcsc_sure_same h hq]
theorem Count_sure8 (h : dcsc_sure c = some q) (hq : IsC q n k T) : dcsc_Count c = some (T.length : Int) := by
 rw [← dcsc_Count_is hq, dcsc_Count_eq, dcsc_Count_eq, dcsc_sure_same h hq]
theorem Work_sure (h : dcsc_sure c = some q) (hq : IsC q n k T) {y : Sl Int} (hy : okS 1 y) (hl : y.l.length ≤ 10000) : dcsc_Work c y = some (workN T y.l : Int) := by
 rw [← dcsc_Work_is hq hy hl, dcsc_Work_eq, dcsc_Work_eq, dcsc_sure_same h hq]
theorem Back_sure (h : dcsc_sure c = some q) (hq : IsC q n k T) : dcsc_Back c = dcsc_Back q := by
 rw [dcsc_Back_eq, dcsc_Back_eq, dcsc_sure_same h hq]
theorem rBack_sure (h : ref08_Sure c = some q) (hq : IsC q n k T) : ref08_Back c = ref08_Back q := by
 rw [ref08_Back_eq, ref08_Back_eq, ref08_Sure_same h hq]
theorem rWork_sure (h : ref08_Sure c = some q) (hq : IsC q n k T) {y : Sl Int} (hy : okS 1 y) (hl : y.l.length ≤ 10000) : ref08_Work c y = some (workN T y.l : Int) := by
 have hlen := hq.len
 rw [ref08_Work_eq]
 have q : loopO (ref08_Work_b1 c y) (0, 0) = some (.inl (workN T y.l : Int)) := by
  have e : workN T y.l = workN T (y.l.take y.l.length) := by rw [List.take_length]
  rw [e]
  refine loop_stop y.l.length (fun i => ((workN T (y.l.take i) : Int), (i : Int))) ?_ (fun i hi => ?_) ?_
  ·simp [workN]
  ·have a1 := atS_some' hy (List.getElem?_eq_getElem hi)
   have b1 := workN_top hlen (l := y.l.take i) (by rw [List.length_take]; omega)
   have b2 := rowI_len T y.l[i]
   simp only [ref08_Work_b1, a1, Option.bind_some]
   rw [if_pos (by omega), rColumn_sure h hq, Option.map_some, Option.bind_some, mo_l, List.length_map, wrap64 (n := (workN T (y.l.take i) : Int) + _) (by omega) (by omega), w_succ hi (by omega), workN_take hi]
   rfl
  ·simp only [ref08_Work_b1]
   rw [if_neg (by omega)]
 rw [q]
 rfl
end
end Ev
end Go.Proofs.Ytlkcneneagifoaa
end
