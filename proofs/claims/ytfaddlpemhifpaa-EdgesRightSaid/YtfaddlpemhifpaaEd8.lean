/- Two rows in memory, edges and wide numbers, apart from one another. -/
import Derived.Test.YtfaddlpemhifpaaEd7
namespace Go.Proofs.Ytfaddlpemhifpaa
open Go.RowKit Go.Sort
set_option linter.unusedVariables false
set_option linter.unusedSimpArgs false
def rowW : List Int → List Value
  | [] => []
  | z :: l => .int .i64 (hi z) :: .int .u64 (lo z) :: rowW l
theorem rowW_snoc (l : List Int) (z : Int) : rowW (l ++ [z]) = rowW l ++ [.int .i64 (hi z), .int .u64 (lo z)] := by
  induction l with
  | nil => rfl
  | cons x l ih => simp [rowW, ih]
theorem rowW_len (l : List Int) : (rowW l).length = l.length * 2 := by
  induction l with
  | nil => rfl
  | cons s l ih => simp [rowW, ih]; omega
theorem rowW_at (l : List Int) : ∀ (k : Nat) (h : k < l.length), (rowW l)[k * 2]? = some (.int .i64 (hi l[k])) ∧ (rowW l)[k * 2 + 1]? = some (.int .u64 (lo l[k])) := by
  induction l with
  | nil => intro k h; simp at h
  | cons x l ih =>
    intro k h
    cases k with
    | zero => simp [rowW]
    | succ k =>
      have := ih k (by simpa using h)
      rw [show (k + 1) * 2 = k * 2 + 1 + 1 by omega]
      simpa [rowW] using this
theorem rowW_set (l : List Int) (z : Int) : ∀ (k : Nat), k < l.length → ((rowW l).set (k * 2) (.int .i64 (hi z))).set (k * 2 + 1) (.int .u64 (lo z)) = rowW (l.set k z) := by
  induction l with
  | nil => intro k h; simp at h
  | cons x l ih =>
    intro k h
    cases k with
    | zero => simp [rowW]
    | succ k =>
      have := ih k (by simpa using h)
      rw [show (k + 1) * 2 = k * 2 + 1 + 1 by omega]
      simpa [rowW] using this

def ApartV (a b : Value) : Prop := ∀ g, a.ownBlock = some g → b.ownBlock ≠ some g
theorem ApartV.symm {a b : Value} (h : ApartV a b) : ApartV b a := fun g h1 h2 => h g h2 h1
theorem ApartV.of_none {b : Value} : ApartV (.slice none 0 0) b := fun g h => by simp [Value.ownBlock] at h
theorem infoWide : (Try.prog.info? 52).map (fun i => (i.zero, i.size, i.bytes)) = some (some (.agg #[.int .i64 0, .int .u64 0]), 2, 16) := by kernel_rfl
/-- A row stays while another one, apart from it, is turned. -/
theorem row_apart {W W1 : World} {base2 e2 s2 k2 : Nat} {p q : Value} {ys : List Value} (hq : W.ownsRow base2 e2 s2 q k2 ys) (hA : ApartV p q) (hg : W.grownBy W1 p.ownBlock) : W1.ownsRow base2 e2 s2 q k2 ys := by
  refine hq.kept hg ?_
  cases h : q.ownBlock with
  | none => exact .inl rfl
  | some g => exact .inr (fun e => hA g e.symm h)
theorem apart_new {W : World} {base2 e2 s2 k2 : Nat} {p p' q : Value} {ys : List Value} (hq : W.ownsRow base2 e2 s2 q k2 ys) (hA : ApartV p q) (hat : p'.ownBlock = p.ownBlock ∨ p'.ownBlock = some W.heap.size) : ApartV p' q := by
  intro g h1 h2
  rcases hat with e | e
  · exact hA g (by rw [← e]; exact h1) h2
  · rw [e] at h1; cases h1
    have := (hq.lt _ h2).2
    omega
/-- What is stored into one place of a list of edges. -/
theorem cellsE_set : ∀ (l : List Ed) (k : Nat) (e : Ed), k < l.length → (((cellsE l).set (k * 3) (.int .i64 e.1)).set (k * 3 + 1) (.int .i64 e.2.1)).set (k * 3 + 2) (.int .i64 e.2.2) = cellsE (l.set k e)
  | [], k, e, h => by simp at h
  | d :: l, 0, e, h => by simp [cellsE_cons, encE]
  | d :: l, k + 1, e, h => by
    have ih := cellsE_set l k e (by simpa using h)
    rw [List.set_cons_succ, cellsE_cons, cellsE_cons, ← ih]
    have e1 : (k + 1) * 3 = k * 3 + 3 := by omega
    rw [e1]
    simp [encE]
theorem row_set3 {w : World} {base n g cap : Nat} {l : List Ed} (h : w.ownsRow base 41 3 (.slice (some ⟨g, 0, none⟩) n cap) n (cellsE l)) (k : Nat) (hk : k < l.length) (e : Ed) :
    (((w.setCell ⟨g, k * 3, none⟩ (.int .i64 e.1)).setCell ⟨g, k * 3 + 1, none⟩ (.int .i64 e.2.1)).setCell ⟨g, k * 3 + 2, none⟩ (.int .i64 e.2.2)).ownsRow base 41 3 (.slice (some ⟨g, 0, none⟩) n cap) n (cellsE (l.set k e)) ∧ w.grownBy (((w.setCell ⟨g, k * 3, none⟩ (.int .i64 e.1)).setCell ⟨g, k * 3 + 1, none⟩ (.int .i64 e.2.1)).setCell ⟨g, k * 3 + 2, none⟩ (.int .i64 e.2.2)) (some g) := by
  obtain ⟨h1, g1⟩ := h.stored (k * 3) (.int .i64 e.1)
  obtain ⟨h2, g2⟩ := h1.stored (k * 3 + 1) (.int .i64 e.2.1)
  obtain ⟨h3, g3⟩ := h2.stored (k * 3 + 2) (.int .i64 e.2.2)
  rw [cellsE_set l k e hk] at h3
  exact ⟨h3, grownBy_trans (grownBy_trans g1 g2) g3⟩
theorem row_set2 {w : World} {base n g cap : Nat} {l : List Int} (h : w.ownsRow base 52 2 (.slice (some ⟨g, 0, none⟩) n cap) n (rowW l)) (k : Nat) (hk : k < l.length) (z : Int) :
    ((w.setCell ⟨g, k * 2, none⟩ (.int .i64 (hi z))).setCell ⟨g, k * 2 + 1, none⟩ (.int .u64 (lo z))).ownsRow base 52 2 (.slice (some ⟨g, 0, none⟩) n cap) n (rowW (l.set k z)) ∧ w.grownBy ((w.setCell ⟨g, k * 2, none⟩ (.int .i64 (hi z))).setCell ⟨g, k * 2 + 1, none⟩ (.int .u64 (lo z))) (some g) := by
  obtain ⟨h1, g1⟩ := h.stored (k * 2) (.int .i64 (hi z))
  obtain ⟨h2, g2⟩ := h1.stored (k * 2 + 1) (.int .u64 (lo z))
  rw [rowW_set l z k hk] at h2
  exact ⟨h2, grownBy_trans g1 g2⟩
theorem row_one {w : World} {base n : Nat} {e : TypeId} {s : Nat} {v : Value} {xs : List Value} (h : w.ownsRow base e s v n xs) (hn : 0 < n) : ∃ g cap, v = .slice (some ⟨g, 0, none⟩) n cap ∧ base ≤ g ∧ g < w.heap.size := by
  rcases h.2 with ⟨_, h0⟩ | ⟨g, cap, cur, rfl, hb, hg, _⟩
  · omega
  · exact ⟨g, cap, rfl, hb, (Array.getElem?_eq_some_iff.1 hg).1⟩
theorem row_slice {w : World} {base n : Nat} {e : TypeId} {s : Nat} {v : Value} {xs : List Value} (h : w.ownsRow base e s v n xs) : ∃ a cap, v = .slice a n cap ∧ (a = none ∨ ∃ g, a = some ⟨g, 0, none⟩) := by
  rcases h.2 with ⟨rfl, rfl⟩ | ⟨g, cap, cur, rfl, _⟩
  · exact ⟨none, 0, rfl, .inl rfl⟩
  · exact ⟨_, cap, rfl, .inr ⟨g, rfl⟩⟩
theorem new_ne {P g B : Nat} {v v' : Value} {W : World} (hL : ∀ q, v.ownBlock = some q → q < B) (hP : B ≤ P) (hPU : P < W.heap.size) (hat : v'.ownBlock = v.ownBlock ∨ v'.ownBlock = some W.heap.size) (hv : v'.ownBlock = some g) : P ≠ g := by
  rintro rfl
  rcases hat with e | e
  · have := hL P (e.symm.trans hv); omega
  · rw [hv] at e; cases e; omega
theorem row_rd3 {w : World} {base n g cap : Nat} {l : List Ed} (h : w.ownsRow base 41 3 (.slice (some ⟨g, 0, none⟩) n cap) n (cellsE l)) (i : Nat) (hi : i < l.length) : w.cell? ⟨g, i * 3, none⟩ = some (.int .i64 (el l i).1) ∧ w.cell? ⟨g, i * 3 + 1, none⟩ = some (.int .i64 (el l i).2.1) ∧ w.cell? ⟨g, i * 3 + 2, none⟩ = some (.int .i64 (el l i).2.2) := by
  have hn : l.length * 3 = n * 3 := by have := h.1; rw [cellsE_len] at this; omega
  refine ⟨?_, ?_, ?_⟩
  · rw [h.cellAt (i * 3) (by omega)]; simpa [encE] using cellsE_at l i 0 hi (by omega)
  · rw [h.cellAt (i * 3 + 1) (by omega)]; simpa [encE] using cellsE_at l i 1 hi (by omega)
  · rw [h.cellAt (i * 3 + 2) (by omega)]; simpa [encE] using cellsE_at l i 2 hi (by omega)
def zl (l : List Int) (i : Nat) : Int := l.getD i 0
theorem row_rd2 {w : World} {base n g cap : Nat} {l : List Int} (h : w.ownsRow base 52 2 (.slice (some ⟨g, 0, none⟩) n cap) n (rowW l)) (i : Nat) (hi : i < l.length) : w.cell? ⟨g, i * 2, none⟩ = some (.int .i64 (Ytfaddlpemhifpaa.hi (zl l i))) ∧ w.cell? ⟨g, i * 2 + 1, none⟩ = some (.int .u64 (lo (zl l i))) := by
  have hn : l.length * 2 = n * 2 := by have := h.1; rw [rowW_len] at this; omega
  have e : l[i] = zl l i := by simp [zl, List.getD_eq_getElem?_getD, hi]
  have := rowW_at l i hi
  rw [e] at this
  exact ⟨(h.cellAt (i * 2) (by omega)).trans this.1, (h.cellAt (i * 2 + 1) (by omega)).trans this.2⟩
theorem cellsE_setW : ∀ (l : List Ed) (k : Nat) (z : Int), k < l.length → (cellsE l).set (k * 3 + 2) (.int .i64 z) = cellsE (l.set k ((el l k).1, (el l k).2.1, z))
  | [], k, z, h => by simp at h
  | d :: l, 0, z, h => by simp [cellsE_cons, encE, el]
  | d :: l, k + 1, z, h => by
    have ih := cellsE_setW l k z (by simpa using h)
    rw [List.set_cons_succ, cellsE_cons, cellsE_cons]
    have e1 : (k + 1) * 3 + 2 = k * 3 + 2 + 3 := by omega
    have e2 : el (d :: l) (k + 1) = el l k := by simp [el]
    rw [e1, e2, ← ih]
    simp [encE]
def nar (S : List (Ky × Int)) (q : Nat) : List Ed := (S.take q).map toE ++ (S.drop q).map (fun p => (p.1.1, p.1.2, 0))
theorem nar_len (S : List (Ky × Int)) (q : Nat) : (nar S q).length = S.length := by unfold nar; simp; omega
theorem nar_at (S : List (Ky × Int)) (q : Nat) (h : q < S.length) : el (nar S q) q = (S[q].1.1, S[q].1.2, 0) := by
  unfold nar el
  rw [List.getD_eq_getElem?_getD, List.getElem?_append_right (by simp; omega)]
  simp [Nat.min_eq_left (Nat.le_of_lt h), h]
theorem nar_step (S : List (Ky × Int)) (q : Nat) (h : q < S.length) : (nar S q).set q (toE S[q]) = nar S (q + 1) := by
  unfold nar
  have e1 : S.drop q = S[q] :: S.drop (q + 1) := List.drop_eq_getElem_cons h
  rw [e1, List.map_cons, List.set_append_right _ _ (by simp; omega), List.length_map, List.length_take, Nat.min_eq_left (Nat.le_of_lt h), Nat.sub_self, List.set_cons_zero, List.take_succ_eq_append_getElem h, List.map_append, List.append_assoc]
  rfl
theorem nar_all (S : List (Ky × Int)) : nar S S.length = S.map toE := by unfold nar; simp
theorem row_below {w w' : World} {base n : Nat} {e : TypeId} {s : Nat} {v : Value} {xs : List Value} (h : w.ownsRow base e s v n xs) (hb : Below w.heap.size w w') : w'.ownsRow base e s v n xs :=
  h.kept (grownBy_of_below hb none) (by cases h : v.ownBlock; exact .inl rfl; exact .inr (by simp))
theorem cell_two_new (W : World) (t : TypeId) (x y : Value) : ∀ (j : Nat) (u : Value), [x, y][j]? = some u → (W.alloc (.cells #[x, y] t)).cell? ((⟨W.heap.size, 0, none⟩ : Addr).add j) = some u := by
  intro j u h
  rw [addr0]
  have hc : CellsAt (W.alloc (.cells #[x, y] t)) W.heap.size t #[x, y] := World.alloc_heap_new W _
  rw [hc.cell j]
  simpa using h
/-- A list with one place more, whose elements from one place on have been moved there. -/
def shf {α : Type} (S : List α) (z : α) (q : Nat) : List α := (S ++ [z]).take (q + 1) ++ S.drop q
theorem shf_top {α : Type} (S : List α) (z : α) : shf S z S.length = S ++ [z] := by
  unfold shf
  rw [List.take_of_length_le (by simp), List.drop_length]; simp
theorem shf_len {α : Type} (S : List α) (z : α) (q : Nat) (h : q ≤ S.length) : (shf S z q).length = S.length + 1 := by
  unfold shf; simp; omega
theorem shf_at {α : Type} (S : List α) (z : α) (q i : Nat) (h : q ≤ S.length) : (shf S z q)[i]? = if i ≤ q then (S ++ [z])[i]? else S[i - 1]? := by
  unfold shf
  rw [List.getElem?_append]
  have hl : ((S ++ [z]).take (q + 1)).length = q + 1 := by simp; omega
  rw [hl]
  by_cases hi : i ≤ q
  · rw [if_pos (by omega), if_pos hi, List.getElem?_take, if_pos (by omega)]
  · rw [if_neg (by omega), if_neg hi, List.getElem?_drop]
    congr 1; omega
theorem shf_step {α : Type} (S : List α) (z : α) (q : Nat) (h : q + 1 ≤ S.length) (x : α) (hx : (shf S z (q + 1))[q]? = some x) : (shf S z (q + 1)).set (q + 1) x = shf S z q := by
  refine List.ext_getElem? fun i => ?_
  rw [List.getElem?_set]
  rw [shf_at S z (q + 1) q h, if_pos (by omega), List.getElem?_append_left (by omega)] at hx
  by_cases hi : q + 1 = i
  · subst hi
    rw [if_pos rfl, if_pos (by rw [shf_len S z _ h]; omega), shf_at S z q _ (by omega), if_neg (by omega)]
    simpa using hx.symm
  · rw [if_neg hi, shf_at S z (q + 1) i h, shf_at S z q i (by omega)]
    by_cases h2 : i ≤ q
    · rw [if_pos (by omega), if_pos h2]
    · rw [if_neg (by omega), if_neg h2]
theorem shf_set {α : Type} (S : List α) (z : α) (k : Nat) (h : k ≤ S.length) (x : α) : (shf S z k).set k x = S.take k ++ x :: S.drop k := by
  unfold shf
  have hl : ((S ++ [z]).take k).length = k := by simp; omega
  have e : (S ++ [z]).take (k + 1) = (S ++ [z]).take k ++ [(S ++ [z])[k]'(by simp; omega)] := by rw [List.take_succ_eq_append_getElem]
  rw [e, List.append_assoc, List.set_append_right _ _ (by rw [hl]; exact Nat.le_refl _), hl, Nat.sub_self, List.take_append_of_le_length h]
  rfl
end Go.Proofs.Ytfaddlpemhifpaa
