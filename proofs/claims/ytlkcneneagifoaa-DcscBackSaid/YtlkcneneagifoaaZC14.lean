/- Texts of a claim, joined. -/
import Derived.Test.YtlkcneneagifoaaZC13
import Derived.Test.YtlkcneneagifoaaZC11
import Derived.Test.YtlkcneneagifoaaZC9
import Derived.OpenShut
set_option linter.unusedVariables false
set_option linter.unusedSimpArgs false
section
namespace Go.Proofs.Ytlkcneneagifoaa
namespace Ev
open Go Sm
set_option linter.unusedVariables false
set_option linter.unusedSimpArgs false
theorem ref05_below_w (a b : E3) : ref05_below a b = some (bel a b) := by
 rw [ref05_below_eq]
 have hb : bel a b = (decide (a.1 < b.1) || (decide (a.1 = b.1) && decide (a.2.1 < b.2.1))) := by
  unfold bel klt key; rw [Bool.decide_or, Bool.decide_and]
 rw [hb]
 by_cases h1 : a.1 < b.1
 ·rw [if_pos h1, decide_eq_true h1]; rfl
 ·rw [if_neg h1, decide_eq_false h1]
  by_cases h2 : a.1 = b.1
  ·rw [if_pos h2, decide_eq_true h2]; rfl
  ·rw [if_neg h2, decide_eq_false h2]; rfl
def insE {α : Type} (l : List α) (k : Nat) (y : α) : List α := l.take k ++ y :: l.drop k
theorem insE_len {α : Type} {l : List α} {k : Nat} (y : α) : (insE l k y).length = l.length + 1 := by unfold insE; simp; omega
theorem insE_at {α : Type} {l : List α} {k : Nat} (hk : k ≤ l.length) (y : α) : (insE l k y)[k]? = some y := by
 unfold insE
 rw [List.getElem?_append_right (by rw [List.length_take]; omega), List.length_take, Nat.min_eq_left hk, Nat.sub_self]; rfl
theorem insE_set {α : Type} {l : List α} {k : Nat} (hk : k ≤ l.length) (y x : α) : (insE l k y).set k x = insE l k x := by
 unfold insE
 rw [List.set_append_right _ _ (by rw [List.length_take]; omega), List.length_take, Nat.min_eq_left hk, Nat.sub_self]; rfl
theorem insE_last {α : Type} (l : List α) (y : α) : insE l l.length y = l ++ [y] := by unfold insE; simp
theorem insE_pred {α : Type} {l : List α} {k : Nat} (hk : k + 1 ≤ l.length) (y : α) : (insE l (k + 1) y)[k]? = some l[k] ∧ insE l (k + 1) l[k] = insE l k l[k] := by
 unfold insE
 constructor
 ·rw [List.getElem?_append_left (by simp; omega), List.getElem?_take, if_pos (by omega), List.getElem?_eq_getElem]
 ·rw [List.take_succ_eq_append_getElem (by omega), List.append_assoc, List.drop_eq_getElem_cons (i := k) (by omega)]; rfl
theorem insE_mem {α : Type} {l : List α} {k : Nat} {y x : α} (h : x ∈ insE l k y) : x = y ∨ x ∈ l := by
 unfold insE at h
 rcases List.mem_append.1 h with h | h
 ·exact .inr (List.mem_of_mem_take h)
 ·rcases List.mem_cons.1 h with h | h
  ·exact .inl h
  ·exact .inr (List.mem_of_mem_drop h)
theorem shift_one {b : Int × List E3 × List (Int × Int) → Option ((Int × List E3 × List (Int × Int)) ⊕ ((List E3 × List (Int × Int)) ⊕ Empty))} {a : Nat} (hb : b = ref05_Combine_b2 (a : Int) ∨ b = ref05_Combine_b3 (a : Int)) {l : List E3} {s : List (Int × Int)} (hl : s.length = l.length) (hn : l.length ≤ 100000) (ha : a ≤ l.length) (y : E3) (z : Int × Int) :
  ∃ y' z', loopO b ((l.length : Int), l ++ [y], s ++ [z]) = some (.inl (insE l a y', insE s a z')) := by
 have step : ∀ (k : Nat) y z, a < k + 1 → k + 1 ≤ l.length → ∃ y' z', b (((k + 1 : Nat) : Int), insE l (k + 1) y, insE s (k + 1) z) = some (.inl ((k : Int), insE l k y', insE s k z')) := fun k y z h1 hk => by
  have hks : k + 1 ≤ s.length := by omega
  have e1 := atL_some' (insE_pred hk y).1
  have e2 := atL_some' (insE_at hk y)
  have e3 := atL_some' (insE_pred hks z).1
  have e4 := atL_some' (insE_at hks z)
  have hw : IntKind.i64.wrap (((k + 1 : Nat) : Int) - 1) = (k : Int) := by rw [wrap64 (by omega) (by omega)]; omega
  have t1 : ((k + 1 : Nat) : Int).toNat = k + 1 := Int.toNat_natCast _
  refine ⟨l[k], s[k], ?_⟩
  rw [← (insE_pred hk y).2, ← (insE_pred hks z).2, ← insE_set hk y l[k], ← insE_set hks z s[k]]
  rcases hb with rfl | rfl
  ·simp only [ref05_Combine_b2, hw, e1, e2, e3, e4, Option.bind_some, t1]
   rw [if_pos (by omega)]
  ·simp only [ref05_Combine_b3, hw, e1, e2, e3, e4, Option.bind_some, t1]
   rw [if_pos (by omega)]
 have stop : ∀ y z, b ((a : Int), insE l a y, insE s a z) = some (.inr (.inl (insE l a y, insE s a z))) := fun y z => by
  rcases hb with rfl | rfl
  ·simp only [ref05_Combine_b2]; rw [if_neg (by omega)]
  ·simp only [ref05_Combine_b3]; rw [if_neg (by omega)]
 obtain ⟨q, q1, y', z', q2⟩ := loop_up (b := b) (l.length - a) (fun j st => ∃ y z, st = (((l.length - j : Nat) : Int), insE l (l.length - j) y, insE s (l.length - j) z)) (fun q => ∃ y z, q = .inl (insE l a y, insE s a z))
  (by
   rintro j _ hj ⟨y, z, rfl⟩
   obtain ⟨k, hk⟩ : ∃ k, l.length - j = k + 1 := ⟨l.length - j - 1, by omega⟩
   rw [hk]
   obtain ⟨y', z', e⟩ := step k y z (by omega) (by omega)
   exact .inl ⟨_, e, y', z', by rw [show l.length - (j + 1) = k by omega]⟩)
  (by
   rintro _ ⟨y, z, rfl⟩
   rw [show l.length - (l.length - a) = a by omega]
   exact ⟨_, stop y z, y, z, rfl⟩) 0 (Nat.zero_le _) ((l.length : Int), l ++ [y], s ++ [z]) ⟨y, z, by rw [Nat.sub_zero, insE_last, ← hl, insE_last, hl]⟩
 exact ⟨y', z', by rw [q1, q2]⟩
def kz (p : Ky × V) : E3 := (p.1.1, p.1.2, 0)
def pos (S : List (Ky × V)) (e : E3) : Nat := (S.takeWhile fun p => klt p.1 (key e)).length
theorem pos_le (S : List (Ky × V)) (e : E3) : pos S e ≤ S.length := (List.takeWhile_sublist _).length_le
theorem pos_cons_t {p : Ky × V} {S : List (Ky × V)} {e : E3} (hp : klt p.1 (key e) = true) : pos (p :: S) e = pos S e + 1 := by unfold pos; simp [List.takeWhile_cons, hp]
theorem pos_cons_f {p : Ky × V} {S : List (Ky × V)} {e : E3} (hp : ¬ klt p.1 (key e) = true) : pos (p :: S) e = 0 := by unfold pos; simp [List.takeWhile_cons, hp]
theorem pos_lt : ∀ {S : List (Ky × V)} {e : E3} {j : Nat} (hj : j < S.length), j < pos S e → klt S[j].1 (key e) = true
 | [], e, j, hj, h => by simp at hj
 | p :: S, e, j, hj, h => by
  by_cases hp : klt p.1 (key e) = true
  ·rw [pos_cons_t hp] at h
   cases j with
   | zero => exact hp
   | succ j => exact pos_lt (S := S) (e := e) (j := j) (by simpa using hj) (by omega)
  ·rw [pos_cons_f hp] at h; omega
theorem pos_at' : ∀ {S : List (Ky × V)} {e : E3} {j : Nat} (hj : j < S.length), j = pos S e → klt S[j].1 (key e) = false
 | [], e, j, hj, h => by simp at hj
 | p :: S, e, j, hj, h => by
  by_cases hp : klt p.1 (key e) = true
  ·rw [pos_cons_t hp] at h
   subst h
   exact pos_at' (S := S) (e := e) (j := pos S e) (by simpa using hj) rfl
  ·rw [pos_cons_f hp] at h
   subst h
   simpa using hp
theorem pos_at {S : List (Ky × V)} {e : E3} (h : pos S e < S.length) : klt (S[pos S e]'h).1 (key e) = false := pos_at' h rfl
theorem ins_eq (R : Rg) (e : E3) : ∀ (S : List (Ky × V)), ins R S e = if h : pos S e < S.length then (if klt (key e) (S[pos S e]'h).1 = true then insE S (pos S e) (key e, R.o e.2.2) else S.set (pos S e) ((S[pos S e]'h).1, R.ad (S[pos S e]'h).2 (R.o e.2.2))) else S ++ [(key e, R.o e.2.2)]
 | [] => by simp [ins, pos]
 | p :: S => by
  have ih := ins_eq R e S
  unfold ins
  by_cases hp : klt p.1 (key e) = true
  ·have hpos : pos (p :: S) e = pos S e + 1 := by unfold pos; simp [List.takeWhile_cons, hp]
   rw [if_pos hp, ih]
   simp only [hpos, List.length_cons, Nat.add_lt_add_iff_right, List.getElem_cons_succ]
   split
   ·split
    ·unfold insE; simp
    ·simp
   ·simp
  ·have hpos : pos (p :: S) e = 0 := by unfold pos; simp [List.takeWhile_cons, hp]
   rw [if_neg hp]
   simp only [hpos, List.length_cons, Nat.zero_lt_succ, dif_pos, List.getElem_cons_zero]
   split
   ·unfold insE; simp
   ·simp
theorem insE_map {α β : Type} (f : α → β) (l : List α) (k : Nat) (y : α) : (insE l k y).map f = insE (l.map f) k (f y) := by unfold insE; simp
theorem can_len (R : Rg) (l : List E3) : (canS R l).length ≤ l.length := by
 have key : ∀ (S : List (Ky × V)) e, (ins R S e).length ≤ S.length + 1 := by
  intro S e
  rw [ins_eq]
  split
  ·split
   ·rw [insE_len]; omega
   ·simp
  ·simp
 have : ∀ (l : List E3) (S : List (Ky × V)), (l.foldl (ins R) S).length ≤ S.length + l.length := by
  intro l
  induction l with
  | nil => intro S; simp
  | cons e l ih => intro S; have h1 := ih (ins R S e); have h2 := key S e; simp only [List.foldl_cons, List.length_cons]; omega
 simpa [canS] using this l []
theorem ins_lo {r : Int} {S : List (Ky × V)} {e : E3} (h : ∀ p ∈ S, u64r p.2.2) : ∀ p ∈ ins (RG r) S e, u64r p.2.2 := by
 intro p hp
 rw [ins_eq] at hp
 split at hp
 ·rename_i hl
  split at hp
  ·rcases insE_mem hp with rfl | hp
   ·exact ofW_lo _
   ·exact h p hp
  ·rcases List.mem_or_eq_of_mem_set hp with hp | rfl
   ·exact h p hp
   ·exact ringAdd_lo (h _ (List.getElem_mem hl)) (ofW_lo _)
 ·rcases List.mem_append.1 hp with hp | hp
  ·exact h p hp
  ·simp at hp; subst hp; exact ofW_lo _
theorem can_lo (r : Int) (l : List E3) : ∀ p ∈ canS (RG r) l, u64r p.2.2 := by
 have : ∀ (l : List E3) (S : List (Ky × V)), (∀ p ∈ S, u64r p.2.2) → ∀ p ∈ l.foldl (ins (RG r)) S, u64r p.2.2 := by
  intro l
  induction l with
  | nil => intro S h; exact h
  | cons e l ih => intro S h; exact ih _ (ins_lo h)
 exact this l [] (by simp)
theorem find_at {x : Sl E3} {S : List (Ky × V)} {w : List (Int × Int)} {i : Nat} (hs : okS 3 x) (hi : i < x.l.length) (hn : S.length ≤ 100000) : loopO (ref05_Combine_b1 x (S.map kz, w, (i : Int))) 0 = some (.inl ((pos S x.l[i] : Nat) : Int)) := by
 have ei := at_get hs hi
 have hb : ∀ j (hj : j < S.length), bel (kz S[j]) x.l[i] = klt S[j].1 (key x.l[i]) := fun j hj => rfl
 refine loop_stop (pos S x.l[i]) (fun j => (j : Int)) rfl (fun j hj => ?_) ?_
 ·have hjl : j < S.length := Nat.lt_of_lt_of_le hj (pos_le _ _)
  have ej : atL (S.map kz) (j : Int) = some (kz S[j]) := atL_some' (by simp [hjl])
  simp only [ref05_Combine_b1, ej, ei, Option.bind_some, ref05_below_w, hb j hjl, pos_lt hjl hj, if_true, List.length_map, w_succ hjl (by omega)]
  rw [if_pos (by omega)]
 ·by_cases hl : pos S x.l[i] < S.length
  ·have ej : atL (S.map kz) ((pos S x.l[i] : Nat) : Int) = some (kz S[pos S x.l[i]]) := atL_some' (by simp [hl])
   simp only [ref05_Combine_b1, ej, ei, Option.bind_some, ref05_below_w, hb _ hl, pos_at hl, List.length_map]
   rw [if_pos (by omega), if_neg (by simp)]
  ·simp only [ref05_Combine_b1, List.length_map]
   rw [if_neg (by omega)]
theorem combine_sums {r : Int} {x : Sl E3} (hs : okS 3 x) (hn : x.l.length ≤ 65536) : loopO (ref05_Combine_b4 r x) ([], [], 0) = some (.inl ((canS (RG r) x.l).map kz, (canS (RG r) x.l).map (·.2))) := by
 refine loop_stop x.l.length (fun j => ((canS (RG r) (x.l.take j)).map kz, (canS (RG r) (x.l.take j)).map (·.2), (j : Int))) (by simp [canS]) (fun j hj => ?_) ?_
 ·have hlen := can_len (RG r) (x.l.take j)
  have hlj : (x.l.take j).length ≤ 65536 := by simp; omega
  rw [List.take_succ_eq_append_getElem hj, canS_snoc]
  generalize canS (RG r) (x.l.take j) = S at hlen ⊢
  have hf := find_at (S := S) (w := S.map (·.2)) hs hj (by omega)
  have ej := at_get hs hj
  have hp := pos_le S x.l[j]
  have hat := @pos_at S x.l[j]
  have hi := ins_eq (RG r) x.l[j] S
  generalize hA : pos S x.l[j] = a at hf hp hat hi
  generalize x.l[j] = e at ej hf hat hi
  have ap1 : app (S.map kz) [((0 : Int), (0 : Int), (0 : Int))] = some (S.map kz ++ [(0, 0, 0)]) := app_ok (by simp; unfold bound; omega)
  have ap2 : app (S.map (·.2)) [((0 : Int), (0 : Int))] = some (S.map (·.2) ++ [(0, 0)]) := app_ok (by simp; unfold bound; omega)
  have hw1 : IntKind.i64.wrap ((((S.map kz ++ [((0 : Int), (0 : Int), (0 : Int))]).length : Nat) : Int) - 1) = ((S.map kz).length : Int) := by simp only [List.length_append, List.length_map, List.length_cons, List.length_nil]; rw [wrap64 (by omega) (by omega)]; omega
  have ta : ((a : Nat) : Int).toNat = a := Int.toNat_natCast _
  have hl2 : (S.map (·.2)).length = (S.map kz).length := by simp
  have hak : a ≤ (S.map kz).length := by simpa using hp
  have has : a ≤ (S.map (·.2)).length := by simpa using hp
  obtain ⟨y2, z2, sh2⟩ := shift_one (b := ref05_Combine_b2 (a : Int)) (.inl rfl) hl2 (by simp; omega) hak (0, 0, 0) (0, 0)
  obtain ⟨y3, z3, sh3⟩ := shift_one (b := ref05_Combine_b3 (a : Int)) (.inr rfl) hl2 (by simp; omega) hak (0, 0, 0) (0, 0)
  have i2 := atL_some' (insE_at hak y2)
  have j2 := atL_some' (insE_at has z2)
  have i3 := atL_some' (insE_at hak y3)
  have j3 := atL_some' (insE_at has z3)
  have hne : ∀ {α : Type} (l : List α) k y, neL (insE l k y) = some () := fun l k y => neL_some (by unfold insE; simp)
  simp only [ref05_Combine_b4, hf, Option.bind_some, Sum.elim_inl, ej, ref01_Of_w, List.length_map]
  rw [if_pos (by omega)]
  by_cases hl : a < S.length
  ·rw [if_pos (by omega)]
   have e1 : atL (S.map kz) (a : Int) = some (kz S[a]) := atL_some' (by simp [hl])
   have e2 : atL (S.map (·.2)) (a : Int) = some S[a].2 := atL_some' (by simp [hl])
   have hk : bel e (kz S[a]) = klt (key e) S[a].1 := rfl
   simp only [e1, e2, Option.bind_some, ref05_below_w, hk, ref02_Add_w, ap1, ap2, hw1, sh2, Sum.elim_inl, i2, j2, ta, insE_set hak, insE_set has, hne, w_succ hj (by omega)]
   rw [dif_pos hl] at hi
   by_cases hc : klt (key e) S[a].1 = true
   ·rw [if_pos hc] at hi
    rw [if_neg (by simp [hc]), hi, insE_map, insE_map]; rfl
   ·rw [if_neg hc] at hi
    rw [if_pos (by simpa using hc), hi, List.map_set, List.map_set]
    have : (S.map kz).set a (kz (S[a].1, (RG r).ad S[a].2 ((RG r).o e.2.2))) = S.map kz := by
     have hk2 : kz (S[a].1, (RG r).ad S[a].2 ((RG r).o e.2.2)) = (S.map kz)[a]'(by simpa using hl) := by simp [kz]
     rw [hk2, List.set_getElem_self]
    rw [this]
  ·rw [if_neg (by omega)]
   rw [dif_neg hl] at hi
   have hae : a = S.length := by omega
   simp only [Option.bind_some, ap1, ap2, hw1, sh3, Sum.elim_inl, i3, j3, ta, insE_set hak, insE_set has, hne, w_succ hj (by omega)]
   rw [hi, hae]
   have q1 : insE (S.map kz) S.length (e.1, e.2.1, (0 : Int)) = S.map kz ++ [(e.1, e.2.1, 0)] := by
    have := insE_last (S.map kz) (e.1, e.2.1, (0 : Int)); rwa [List.length_map] at this
   have q2 : insE (S.map (·.2)) S.length (ofW e.2.2) = S.map (·.2) ++ [ofW e.2.2] := by
    have := insE_last (S.map (·.2)) (ofW e.2.2); rwa [List.length_map] at this
   rw [q1, q2]
   simp [kz, key]
 ·simp only [ref05_Combine_b4, List.take_length]
  rw [if_neg (by omega)]
theorem ref05_Combine_w {r : Int} {x : Sl E3} (hs : okS 3 x) (hn : x.l.length ≤ 65536) (hr : isRing r = true) : ref05_Combine r x = some (mo 3 (sumR (RG r) x.l).1, (sumR (RG r) x.l).2) := by
 rw [ref05_Combine_eq, ref02_Is_w, hr]
 simp only [Option.bind_some, not_true_eq_false, if_false]
 rw [combine_sums hs hn]
 simp only [Option.bind_some, Sum.elim_inl]
 have hlen := can_len (RG r) x.l
 have hlo := can_lo r x.l
 unfold sumR
 generalize canS (RG r) x.l = S at hlen hlo ⊢
 obtain ⟨q, q1, q2⟩ := loop_up (b := ref05_Combine_b5 (S.map kz, S.map (·.2))) S.length (fun j st => st = ((S.take j).map (toE (RG r)) ++ (S.drop j).map kz, (j : Int)) ∧ ∀ p ∈ S.take j, (narrowW p.2).2 = true) (fun q => (S.all (fun p => (narrowW p.2).2) = true ∧ q = .inl (S.map (toE (RG r)))) ∨ (S.all (fun p => (narrowW p.2).2) = false ∧ q = .inr (.inl ([], 12))))
  (by
   rintro j _ hj ⟨rfl, ha⟩
   have e2 : atL (S.map (·.2)) (j : Int) = some S[j].2 := atL_some' (by simp [hj])
   have hln : ((S.take j).map (toE (RG r)) ++ (S.drop j).map kz).length = S.length := by simp; omega
   have e1 : atL ((S.take j).map (toE (RG r)) ++ (S.drop j).map kz) (j : Int) = some (kz S[j]) := atL_some' (by
    rw [List.getElem?_append_right (by simp; omega)]
    simp [List.getElem?_drop, show min j S.length = j by omega, hj])
   have hN : ref01_Narrow S[j].2 = some (narrowW S[j].2) := ref01_Narrow_w (hlo _ (List.getElem_mem hj))
   simp only [ref05_Combine_b5, hln, e2, Option.bind_some, hN, e1, w_succ hj (by omega), Int.toNat_natCast]
   rw [if_pos (by omega)]
   by_cases hc : (narrowW S[j].2).2 = true
   ·rw [if_neg (by simpa using hc)]
    refine .inl ⟨_, rfl, ?_, ?_⟩
    ·rw [Prod.mk.injEq]
     refine ⟨?_, rfl⟩
     rw [List.take_succ_eq_append_getElem hj, List.set_append_right _ _ (by simp; omega)]
     simp only [List.length_map, List.length_take, show min j S.length = j by omega, Nat.sub_self, List.map_append, List.map_cons, List.map_nil]
     rw [List.drop_eq_getElem_cons hj, List.map_cons, List.set_cons_zero, List.append_assoc]
     simp [toE, kz]
    ·intro p hp
     rw [List.take_succ_eq_append_getElem hj] at hp
     rcases List.mem_append.1 hp with hp | hp
     ·exact ha p hp
     ·simp at hp; subst hp; exact hc
   ·rw [if_pos (by simpa using hc)]
    refine .inr ⟨_, rfl, .inr ⟨?_, rfl⟩⟩
    rw [Bool.eq_false_iff]
    intro hh
    exact hc (List.all_eq_true.1 hh _ (List.getElem_mem hj)))
  (by
   rintro _ ⟨rfl, ha⟩
   simp only [ref05_Combine_b5, List.take_length, List.drop_length, List.map_nil, List.append_nil, List.length_map]
   rw [List.take_length] at ha
   rw [if_neg (by omega)]
   exact ⟨_, rfl, .inl ⟨List.all_eq_true.2 ha, rfl⟩⟩) 0 (Nat.zero_le _) (S.map kz, 0) ⟨by simp, by simp⟩
 rw [q1]
 rcases q2 with ⟨h, rfl⟩ | ⟨h, rfl⟩
 ·rw [if_pos h]; rfl
 ·rw [if_neg (by rw [h]; simp)]; rfl
end Ev
end Go.Proofs.Ytlkcneneagifoaa
end
section
namespace Go.Proofs.Ytlkcneneagifoaa
namespace Ev
open Go Sm
set_option linter.unusedVariables false
set_option linter.unusedSimpArgs false
theorem narrow_of {n : Int} (h : i64r n) : narrowW (ofW n) = (n, true) := by
 unfold narrowW
 have e : IntKind.i64.wrap (ofW n).2 = n := by
  unfold ofW
  simp only
  rw [wrap_u64, IntKind.wrap_i64]; unfold i64r at h; omega
 rw [e, if_pos rfl]
def w64 (l : List E3) : Prop := ∀ x ∈ l, i64r x.1 ∧ i64r x.2.1 ∧ i64r x.2.2
theorem sum_rising {r : Int} {l : List E3} (h : rises l) (hw : ∀ x ∈ l, i64r x.2.2) : sumR (RG r) l = (l, 0) := by
 have hc := canS_rising (RG r) l h
 have ha : (canS (RG r) l).all (fun p => ((RG r).na p.2).2) = true := by
  rw [hc, List.all_eq_true]
  intro p hp
  obtain ⟨e, he, rfl⟩ := List.mem_map.1 hp
  show (narrowW (ofW e.2.2)).2 = true
  rw [narrow_of (hw e he)]
 unfold sumR
 rw [if_pos ha, hc, List.map_map]
 have : l.map (toE (RG r) ∘ fun e => (key e, (RG r).o e.2.2)) = l := by
  refine (List.map_congr_left (g := id) fun e he => ?_).trans (List.map_id l)
  show (e.1, e.2.1, (narrowW (ofW e.2.2)).1) = e
  rw [narrow_of (hw e he)]
 rw [this]
theorem sum_spec {r : Int} {l : List E3} : rises (sumR (RG r) l).1 ∧ (sumR (RG r) l).1.length ≤ l.length ∧ (∀ x ∈ (sumR (RG r) l).1, i64r x.2.2 ∧ ∃ y ∈ l, y.1 = x.1 ∧ y.2.1 = x.2.1) ∧ ((sumR (RG r) l).2 = 0 ∨ sumR (RG r) l = ([], 12)) := by
 unfold sumR
 split
 ·refine ⟨?_, by rw [List.length_map]; exact can_len _ _, fun x hx => ?_, .inl rfl⟩
  ·show ((canS (RG r) l).map (toE (RG r))).Pairwise _
   rw [List.pairwise_map]
   exact (rep_can (RG r) l).1
  ·obtain ⟨p, hp, rfl⟩ := List.mem_map.1 hx
   refine ⟨?_, ?_⟩
   ·show i64r (narrowW p.2).1
    unfold narrowW
    split
    ·exact i64_wrap _
    ·unfold i64r; omega
   ·obtain ⟨e, he, hk⟩ := fm_some (((rep_can (RG r) l).2 p.1 p.2).1 hp)
    have h1 := congrArg Prod.fst hk
    have h2 := congrArg Prod.snd hk
    exact ⟨e, he, h1, h2⟩
 ·exact ⟨List.Pairwise.nil, Nat.zero_le _, by simp, .inr rfl⟩
def cntE (l : List E3) (k : Nat) : Nat := l.countP fun x => decide (x.1 + 1 = (k : Int))
theorem cntE_le (l : List E3) (k : Nat) : cntE l k ≤ l.length := List.countP_le_length
theorem cntE_app (l : List E3) (x : E3) (k : Nat) : cntE (l ++ [x]) k = cntE l k + if x.1 + 1 = (k : Int) then 1 else 0 := by
 unfold cntE
 rw [List.countP_append]
 congr 1
 by_cases h : x.1 + 1 = (k : Int) <;> simp [h]
theorem cntR_succ : ∀ (l : List E3) (k : Nat), cntR l (k + 1) = cntR l k + cntE l (k + 1)
 | [], k => rfl
 | x :: l, k => by
  have ih := cntR_succ l k
  unfold cntR cntE at *
  simp only [List.countP_cons, ih]
  by_cases h1 : x.1 < (k : Int)
  ·have h2 : x.1 < ((k + 1 : Nat) : Int) := by omega
   have h3 : ¬ x.1 + 1 = ((k + 1 : Nat) : Int) := by omega
   simp only [decide_eq_true h1, decide_eq_true h2, decide_eq_false h3]
   simp; omega
  ·by_cases h3 : x.1 + 1 = ((k + 1 : Nat) : Int)
   ·have h2 : x.1 < ((k + 1 : Nat) : Int) := by omega
    simp only [decide_eq_false h1, decide_eq_true h2, decide_eq_true h3]
    simp; omega
   ·have h2 : ¬ x.1 < ((k + 1 : Nat) : Int) := by omega
    simp only [decide_eq_false h1, decide_eq_false h2, decide_eq_false h3]
    simp
theorem csr_build_w {n c : Int} (hn : 0 ≤ n ∧ n ≤ 4096) {s : Sl E3} (hs : okS 3 s) (hl : s.l.length ≤ 65536) (hr : ∀ x ∈ s.l, 0 ≤ x.1 ∧ x.1 < n) : csr_build n c s = some (matV n c s.l) := by
 obtain ⟨k, rfl⟩ := Int.eq_ofNat_of_zero_le hn.1
 rw [csr_build_eq]
 unfold matV
 rw [wrap64 (by omega) (by omega), capOk_self, len_one hn]
 have tk : ((k : Int) + 1).toNat = k + 1 := by omega
 simp only [Option.bind_some, tk, Int.toNat_natCast]
 rw [tabN_zero]
 have q1 : loopO (csr_build_b1 s) (0, (k : Int), c, tabN k (fun _ => 0), [], []) = some (.inl ((k : Int), c, tabN k (fun i => ((cntE s.l i : Nat) : Int)), s.l.map (·.2.1), s.l.map (·.2.2))) := by
  refine loop_stop s.l.length (fun j => ((j : Int), (k : Int), c, tabN k (fun i => ((cntE (s.l.take j) i : Nat) : Int)), (s.l.take j).map (·.2.1), (s.l.take j).map (·.2.2))) rfl (fun j hj => ?_) ?_
  ·have ej := at_get hs hj
   have hx := hr _ (List.getElem_mem hj)
   obtain ⟨row, hrow⟩ := Int.eq_ofNat_of_zero_le hx.1
   have hlen : (s.l.take j).length ≤ 65536 := by simp; omega
   have ap1 : app ((s.l.take j).map (·.2.1)) [s.l[j].2.1] = some ((s.l.take j).map (·.2.1) ++ [s.l[j].2.1]) := app_ok (by simp at hlen ⊢; unfold bound; omega)
   have ap2 : app ((s.l.take j).map (·.2.2)) [s.l[j].2.2] = some ((s.l.take j).map (·.2.2) ++ [s.l[j].2.2]) := app_ok (by simp at hlen ⊢; unfold bound; omega)
   have hw : IntKind.i64.wrap (s.l[j].1 + 1) = ((row + 1 : Nat) : Int) := by rw [wrap64 (by omega) (by omega)]; omega
   have hat : atL (tabN k fun i => ((cntE (s.l.take j) i : Nat) : Int)) ((row + 1 : Nat) : Int) = some ((cntE (s.l.take j) (row + 1) : Nat) : Int) := atL_some' (tabN_get _ (by omega))
   have hc := cntE_le (s.l.take j) (row + 1)
   have hw2 : IntKind.i64.wrap (((cntE (s.l.take j) (row + 1) : Nat) : Int) + 1) = ((cntE (s.l.take j) (row + 1) : Nat) : Int) + 1 := wrap64 (by omega) (by omega)
   simp only [csr_build_b1, ej, Option.bind_some, ap1, ap2, hw, hat, hw2, Int.toNat_natCast, w_succ hj (by omega)]
   rw [if_pos (by omega), tabN_set _ _ (by omega), List.take_succ_eq_append_getElem hj, List.map_append, List.map_append]
   simp only [List.map_cons, List.map_nil]
   refine congrArg (fun z => some (Sum.inl ((((j + 1 : Nat) : Int), (k : Int), c, z)))) ?_
   rw [Prod.mk.injEq]
   refine ⟨tabN_congr fun i hi => ?_, rfl⟩
   rw [cntE_app, hrow]
   by_cases h : i = row + 1
   ·rw [if_pos h, if_pos (by omega), h]; omega
   ·rw [if_neg h, if_neg (by omega)]; omega
  ·simp only [csr_build_b1]
   rw [if_neg (by omega), List.take_length]
 have q2 : loopO csr_build_b2 (1, tabN k (fun i => ((cntE s.l i : Nat) : Int))) = some (.inl (tabN k fun i => ((cntR s.l i : Nat) : Int))) := by
  have h0 : cntR s.l 0 = cntE s.l 0 := by
   unfold cntR cntE
   refine List.countP_congr fun x hx => ?_
   have := hr x hx
   simp; omega
  refine loop_stop k (fun j => (((j + 1 : Nat) : Int), tabN k (fun i => if i ≤ j then ((cntR s.l i : Nat) : Int) else ((cntE s.l i : Nat) : Int)))) ?_ (fun j hj => ?_) ?_
  ·rw [Prod.mk.injEq]
   refine ⟨rfl, tabN_congr fun i hi => ?_⟩
   by_cases h : i ≤ 0
   ·rw [if_pos h, show i = 0 by omega, h0]
   ·rw [if_neg h]
  ·have e1 : atL (tabN k (fun i => if i ≤ j then ((cntR s.l i : Nat) : Int) else ((cntE s.l i : Nat) : Int))) ((j + 1 : Nat) : Int) = some ((cntE s.l (j + 1) : Nat) : Int) := atL_some' (by rw [tabN_get _ (by omega), if_neg (by omega)])
   have e2 : atL (tabN k (fun i => if i ≤ j then ((cntR s.l i : Nat) : Int) else ((cntE s.l i : Nat) : Int))) (j : Int) = some ((cntR s.l j : Nat) : Int) := atL_some' (by rw [tabN_get _ (by omega), if_pos (by omega)])
   have w1 : IntKind.i64.wrap (((j + 1 : Nat) : Int) - 1) = (j : Int) := by rw [wrap64 (by omega) (by omega)]; omega
   have w2 : IntKind.i64.wrap (((j + 1 : Nat) : Int) + 1) = ((j + 1 + 1 : Nat) : Int) := by rw [wrap64 (by omega) (by omega)]; omega
   have c1 := cntE_le s.l (j + 1)
   have c2 := cntR_le s.l j
   have w3 : IntKind.i64.wrap (((cntE s.l (j + 1) : Nat) : Int) + ((cntR s.l j : Nat) : Int)) = ((cntE s.l (j + 1) : Nat) : Int) + ((cntR s.l j : Nat) : Int) := wrap64 (by omega) (by omega)
   simp only [csr_build_b2, e1, e2, w1, w2, w3, Option.bind_some, Int.toNat_natCast, tabN_len]
   rw [if_pos (by omega), tabN_set _ _ (by omega)]
   refine congrArg (fun z => some (Sum.inl ((((j + 1 + 1 : Nat) : Int), z)))) (tabN_congr fun i hi => ?_)
   have := cntR_succ s.l j
   by_cases h : i = j + 1
   ·rw [if_pos h, if_pos (by omega), h, this]; omega
   ·rw [if_neg h]
    by_cases h2 : i ≤ j
    ·rw [if_pos h2, if_pos (by omega)]
    ·rw [if_neg h2, if_neg (by omega)]
  ·simp only [csr_build_b2, tabN_len]
   rw [if_neg (by omega)]
   refine congrArg (fun z => some (Sum.inr (Sum.inl z))) (tabN_congr fun i hi => ?_)
   rw [if_pos hi]
 rw [q1]
 simp only [Option.bind_some, Sum.elim_inl]
 rw [q2]; rfl
def nilM : Mx := (0, 0, nilS, nilS, nilS)
def inM (n c : Int) (x : E3) : Bool := decide (0 ≤ x.1 ∧ x.1 < n ∧ 0 ≤ x.2.1 ∧ x.2.1 < c)
def ofV (r n c : Int) (l : List E3) : Mx × Int :=
 if isRing r = true then if sizeF n = true ∧ sizeF c = true then if l.length ≤ 65536 then if l.all (inM n c) = true then
  if (sumR (RG r) l).2 = 0 then (matV n c (sumR (RG r) l).1, 0) else (nilM, (sumR (RG r) l).2)
 else (nilM, 3) else (nilM, 5) else (nilM, 3) else (nilM, 8)
theorem inM_f {n c : Int} {x : E3} (h : x.1 < 0 ∨ x.1 ≥ n ∨ x.2.1 < 0 ∨ x.2.1 ≥ c) : inM n c x = false := by unfold inM; rw [decide_eq_false]; omega
theorem all_f {α : Type} {p : α → Bool} {l : List α} {j : Nat} (hj : j < l.length) (h : p l[j] = false) : l.all p = false := by
 rw [Bool.eq_false_iff]
 intro ha
 rw [List.all_eq_true.1 ha _ (List.getElem_mem hj)] at h
 cases h
theorem ref07_Of_loop {n c : Int} {x : Sl E3} (hs : okS 3 x) (hl : x.l.length ≤ 65536) : loopO (ref07_Of_b1 n c x) ([], 0, 0, 0, [], [], []) = some (if x.l.all (inM n c) = true then .inl (x.l, 0, 0, [], [], []) else .inr (.inl (3, 0, 0, [], [], []))) := by
 obtain ⟨q, q1, q2⟩ := loop_up (b := ref07_Of_b1 n c x) x.l.length (fun j st => st = (x.l.take j, (j : Int), 0, 0, [], [], []) ∧ ∀ y ∈ x.l.take j, inM n c y = true) (fun q => q = if x.l.all (inM n c) = true then .inl (x.l, 0, 0, [], [], []) else .inr (.inl (3, 0, 0, [], [], [])))
  (by
   rintro j _ hj ⟨rfl, ha⟩
   have ej := at_get hs hj
   have hlen : (x.l.take j).length ≤ 65536 := by simp; omega
   have ap : app (x.l.take j) [(x.l[j].1, x.l[j].2.1, x.l[j].2.2)] = some (x.l.take j ++ [x.l[j]]) := app_ok (by simp; unfold bound; omega)
   simp only [ref07_Of_b1, ej, Option.bind_some, ap, w_succ hj (by omega)]
   rw [if_pos (by omega)]
   have bad : inM n c x.l[j] = false → ∃ r, (some (Sum.inr (Sum.inr (Sum.inl ((3 : Int), (0 : Int), (0 : Int), ([] : List Int), ([] : List Int), ([] : List Int))))) : Option ((List E3 × Int × Int × Int × List Int × List Int × List Int) ⊕ ((List E3 × Int × Int × List Int × List Int × List Int) ⊕ ((Int × Int × Int × List Int × List Int × List Int) ⊕ Empty)))) = some (.inr r) ∧ r = if x.l.all (inM n c) = true then .inl (x.l, 0, 0, [], [], []) else .inr (.inl (3, 0, 0, [], [], [])) := fun h => ⟨_, rfl, by rw [all_f hj h]; rfl⟩
   by_cases c1 : x.l[j].1 < 0
   ·rw [if_pos c1]; exact .inr (bad (inM_f (.inl c1)))
   by_cases c2 : x.l[j].1 ≥ n
   ·rw [if_neg c1, if_pos c2]; exact .inr (bad (inM_f (.inr (.inl c2))))
   by_cases c3 : x.l[j].2.1 < 0
   ·rw [if_neg c1, if_neg c2, if_pos c3]; exact .inr (bad (inM_f (.inr (.inr (.inl c3)))))
   by_cases c4 : x.l[j].2.1 ≥ c
   ·rw [if_neg c1, if_neg c2, if_neg c3, if_pos c4]; exact .inr (bad (inM_f (.inr (.inr (.inr c4)))))
   rw [if_neg c1, if_neg c2, if_neg c3, if_neg c4, ← List.take_succ_eq_append_getElem hj]
   refine .inl ⟨_, rfl, rfl, fun y hy => ?_⟩
   rw [List.take_succ_eq_append_getElem hj] at hy
   rcases List.mem_append.1 hy with hy | hy
   ·exact ha y hy
   ·simp at hy; subst hy
    unfold inM; rw [decide_eq_true]; omega)
  (by
   rintro _ ⟨rfl, ha⟩
   rw [List.take_length] at ha
   simp only [ref07_Of_b1]
   rw [if_neg (by omega), if_pos (List.all_eq_true.2 ha), List.take_length]
   exact ⟨_, rfl, rfl⟩) 0 (Nat.zero_le _) ([], 0, 0, 0, [], [], []) ⟨rfl, by simp⟩
 rw [q1, q2]
theorem ref07_Of_loop2 {l : List E3} {e : Int} (hl : l.length ≤ 65536) {s : Sl E3} (hs : okS 3 s) (hsl : s.l = l) : loopO (ref07_Of_b2 (s, e)) ([], 0) = some (.inl l) := by
 refine loop_stop l.length (fun j => (l.take j, (j : Int))) rfl (fun j hj => ?_) ?_
 ·have ej : atS 3 s (j : Int) = some l[j] := atS_some' hs (by rw [hsl]; simp [hj])
  have hlen : (l.take j).length ≤ 65536 := by simp; omega
  have ap : app (l.take j) [(l[j].1, l[j].2.1, l[j].2.2)] = some (l.take j ++ [l[j]]) := app_ok (by simp; unfold bound; omega)
  simp only [ref07_Of_b2, ej, Option.bind_some, ap, w_succ hj (by omega), hsl]
  rw [if_pos (by omega), List.take_succ_eq_append_getElem hj]
 ·simp only [ref07_Of_b2, hsl, List.take_length]
  rw [if_neg (by omega)]
theorem rows_in {n c : Int} {l : List E3} (h : l.all (inM n c) = true) {r : Int} : ∀ x ∈ (sumR (RG r) l).1, (0 ≤ x.1 ∧ x.1 < n) ∧ 0 ≤ x.2.1 ∧ x.2.1 < c := by
 intro x hx
 obtain ⟨_, y, hy, e1, e2⟩ := (sum_spec (r := r) (l := l)).2.2.1 x hx
 have := List.all_eq_true.1 h y hy
 unfold inM at this
 simp only [decide_eq_true_eq] at this
 omega
theorem ref07_Of_w {r n c : Int} {x : Sl E3} (hs : okS 3 x) : ref07_Of r n c x = some (ofV r n c x.l) := by
 rw [ref07_Of_eq, ref02_Is_w]
 unfold ofV
 cases hr : isRing r with
 | false => rfl
 | true =>
  simp only [Option.bind_some, not_true_eq_false, if_false, if_true]
  by_cases h1 : sizeF n = true
  ·obtain ⟨g1, g2⟩ := sizeF_iff.1 h1
   rw [if_neg (by omega), if_neg (by omega)]
   by_cases h2 : sizeF c = true
   ·obtain ⟨g3, g4⟩ := sizeF_iff.1 h2
    rw [if_neg (by omega), if_neg (by omega), if_pos (show sizeF n = true ∧ sizeF c = true from ⟨h1, h2⟩)]
    by_cases hl : x.l.length ≤ 65536
    ·rw [if_neg (by omega), if_pos hl, ref07_Of_loop hs hl]
     by_cases ha : x.l.all (inM n c) = true
     ·have hlen := (sum_spec (r := r) (l := x.l)).2.1
      simp only [if_pos ha, Option.bind_some, Sum.elim_inl]
      rw [ref05_Combine_w (ok_mo _) (by rw [mo_l]; exact hl) hr]
      simp only [mo_l, Option.bind_some]
      by_cases h0 : (sumR (RG r) x.l).2 = 0
      ·rw [if_neg (fun h => h h0), if_pos h0, ref07_Of_loop2 (l := (sumR (RG r) x.l).1) (by omega) (ok_mo _) (mo_l _ _)]
       simp only [Option.bind_some, Sum.elim_inl]
       rw [ref07_built_w ⟨g1, g2⟩ (ok_mo _) (by rw [mo_l]; omega) (by rw [mo_l]; exact fun y hy => (rows_in ha y hy).1), mo_l]
       rfl
      ·rw [if_pos h0, if_neg h0]; rfl
     ·rw [if_neg ha, if_neg ha]; rfl
    ·rw [if_pos (by omega), if_neg hl]; rfl
   ·rw [if_neg (show ¬ (sizeF n = true ∧ sizeF c = true) from fun h => h2 h.2)]
    have : ¬ (0 ≤ c ∧ c ≤ 4096) := fun h => h2 (sizeF_iff.2 h)
    by_cases h3 : c < 0
    ·rw [if_pos h3]; rfl
    ·rw [if_neg h3, if_pos (by omega)]; rfl
  ·rw [if_neg (show ¬ (sizeF n = true ∧ sizeF c = true) from fun h => h1 h.1)]
   have : ¬ (0 ≤ n ∧ n ≤ 4096) := fun h => h1 (sizeF_iff.2 h)
   by_cases h3 : n < 0
   ·rw [if_pos h3]; rfl
   ·rw [if_neg h3, if_pos (by omega)]; rfl
end Ev
end Go.Proofs.Ytlkcneneagifoaa
end
section
namespace Go.Proofs.Ytlkcneneagifoaa
namespace Ev
namespace K
open Go Go.RowKit
set_option linter.unusedVariables false
set_option linter.unusedSimpArgs false
def W : (e : Ty) → e.val → Prop
 | .I k, x => inK k x
 | .B, _ => True
 | .S e, x => SlW e.size (fun y => W e y) x
 | .U, _ => True
 | .C a b, x => W a x.1 ∧ W b x.2
def Op (P : Program) (t : TypeId) (e : Ty) : Prop := ∀ ts, Typ P t ts → ∃ x : e.val, ts = e.row x ∧ W e x
def Ops (P : Program) (tl : List TypeId) (e : Ty) : Prop := ∀ tss : List (List T), tss.length = tl.length → (∀ (i : Nat) t l, tl[i]? = some t → tss[i]? = some l → Typ P t l) → ∃ x : e.val, tss.flatten = e.row x ∧ W e x
section
variable {P : Program} {t : TypeId} {tl : List TypeId} {e a b : Ty}
theorem op_int {k : IntKind} (h : P.underlying t = some (.int k)) : Op P t (.I k) := fun ts ht => typ_int h ht
theorem op_slice {t' : TypeId} (h : P.underlying t = some (.slice t')) (hc : P.cellsOf t' = e.size) (ho : Op P t' e) : Op P t (.S e) := fun ts ht => typ_slice (r := e.row) (Q := fun y => W e y) h hc ho ht
theorem ops_one (h : Op P t e) : Ops P [t] e := fun tss hl ht => by
 obtain ⟨l, rfl⟩ := List.length_eq_one_iff.1 hl
 obtain ⟨x, h1, h2⟩ := h l (ht 0 t l rfl rfl)
 exact ⟨x, by simp [h1], h2⟩
theorem ops_cons (h : Op P t a) (h' : Ops P tl b) : Ops P (t :: tl) (.C a b) := fun tss hl ht => by
 match tss, hl with
 | l :: tss, hl =>
  obtain ⟨x, h1, h2⟩ := h l (ht 0 t l rfl rfl)
  obtain ⟨y, h3, h4⟩ := h' tss (by simpa using hl) fun i t' l' a b => ht (i + 1) t' l' a b
  exact ⟨(x, y), by rw [List.flatten_cons, h1, h3]; rfl, h2, h4⟩
theorem op_struct {fs : Array Field} (h : P.underlying t = some (.struct fs)) (hf : fs.toList.map (·.type) = tl) (ho : Ops P tl e) : Op P t e := fun ts ht => by
 obtain ⟨tss, rfl, h1, h2⟩ := typ_struct h ht
 subst hf
 refine ho tss (by simpa using h1) fun i t' l hi hl => ?_
 rw [List.getElem?_map, Option.map_eq_some_iff] at hi
 obtain ⟨f, hf, rfl⟩ := hi
 exact h2 i f l hf hl
theorem op_array {n : Nat} {t' : TypeId} (h : P.underlying t = some (.array n t')) (ho : Ops P (List.replicate n t') e) : Op P t e := fun ts ht => by
 obtain ⟨tss, rfl, h1, h2⟩ := typ_array h ht
 refine ho tss (by simpa using h1) fun i t'' l hi hl => ?_
 have := List.eq_of_mem_replicate (List.mem_of_getElem? hi)
 subst this
 exact h2 l (List.mem_of_getElem? hl)
theorem open_one {ts : List TypeId} {tds : List TD} {d : TypeDesc} (hu : P.underlying t = some d) (hd : isAggD d = false) (ho : Op P t e) (h : TypDs P (t :: ts) tds) : ∃ (x : e.val) (r : List TD), tds = tdOf (false, e) x :: r ∧ W e x ∧ TypDs P ts r := by
 obtain ⟨y, r, rfl, h1, h2⟩ := typd_one hu hd h
 obtain ⟨x, h3, h4⟩ := ho _ h1
 refine ⟨x, r, ?_, h4, h2⟩
 show TD.one y :: r = (match e.row x with | [y] => TD.one y | ys => TD.agg ys) :: r
 rw [← h3]
theorem open_agg {ts : List TypeId} {tds : List TD} {d : TypeDesc} (hu : P.underlying t = some d) (hd : isAggD d = true) (ho : Op P t e) (h : TypDs P (t :: ts) tds) : ∃ (x : e.val) (r : List TD), tds = tdOf (true, e) x :: r ∧ W e x ∧ TypDs P ts r := by
 obtain ⟨y, r, rfl, h1, h2⟩ := typd_agg hu hd h
 obtain ⟨x, h3, h4⟩ := ho _ h1
 exact ⟨x, r, by rw [h3]; rfl, h4, h2⟩
end
theorem true_of {E : Env} {en : Entry} (ok : EntryOk E en) {a : vals en.ins} {tds : List TD} (ht : tds = tdsOf en.ins a) (ho : en.out = .data true [(false, .B)]) (h : en.f a = some (cast (by rw [ho]) true)) : ∃ m n kind, (callers E m n).1 en.k tds = some (kind, [.one (.v (.bool true))]) := by
 have h1 := ok 0 a _ h
 subst ht
 obtain ⟨k, ins, out, f, d⟩ := en
 dsimp only at ho
 subst ho
 exact law_of h1
end K
end Ev
end Go.Proofs.Ytlkcneneagifoaa
end
section
namespace Go.Proofs.Ytlkcneneagifoaa
namespace Ev
open Go Sm
set_option linter.unusedVariables false
set_option linter.unusedSimpArgs false
theorem same_slice {α : Type} [DecidableEq α] {x y : Sl α} (hl : x.l.length ≤ 9223372036854775806) {w : Nat} (hx : okS w x) (hy : okS w y) {b : Int → Option (Int ⊕ PUnit ⊕ Bool ⊕ Empty)}
  (hb : ∀ a, b a = if a < (x.l.length : Int) then (atS w x a).bind fun u => (atS w y a).bind fun v => if u ≠ v then some (.inr (.inr (.inl false))) else some (.inl (IntKind.i64.wrap (a + 1))) else some (.inr (.inl ()))) :
  (if (x.l.length : Int) ≠ (y.l.length : Int) then some false else (loopO b 0).bind fun (y : PUnit ⊕ Bool ⊕ Empty) => Sum.elim (fun _ => some true) (fun v => Sum.elim (fun v => some v) (fun v => nE v) v) y) = some (decide (x.l = y.l)) := by
 by_cases h : x.l.length = y.l.length
 ·rw [if_neg (by omega)]
  rw [same_loop h (b := b) (fun j hj => by
   rw [hb, if_pos (by omega), atS_some' hx (List.getElem?_eq_getElem hj), atS_some' hy (List.getElem?_eq_getElem (by omega))]
   simp only [Option.bind_some]
   by_cases he : x.l[j] = y.l[j]
   ·rw [if_neg (by simp [he]), if_pos he, w_succ hj (by omega)]
   ·rw [if_pos he, if_neg he]) (fun j hj => by rw [hb, if_neg (by omega)])]
  by_cases he : x.l = y.l
  ·simp [he]
  ·simp [he]
 ·rw [if_pos (by omega), decide_eq_false]
  exact fun he => h (by rw [he])
theorem ref03_SameInts_w {x y : Sl Int} (hl : x.l.length ≤ 9223372036854775806) (hx : okS 1 x) (hy : okS 1 y) : ref03_SameInts x y = some (decide (x.l = y.l)) := by
 rw [ref03_SameInts_eq]
 exact same_slice hl hx hy fun a => by unfold ref03_SameInts_b1; rfl
theorem ref07_SameVals_w {x y : Sl Int} (hl : x.l.length ≤ 9223372036854775806) (hx : okS 1 x) (hy : okS 1 y) : ref07_SameVals x y = some (decide (x.l = y.l)) := by
 rw [ref07_SameVals_eq]
 exact same_slice hl hx hy fun a => by unfold ref07_SameVals_b1; rfl
structure Mok (m : Mx) : Prop where
 s : okS 1 m.2.2.1
 c : okS 1 m.2.2.2.1
 v : okS 1 m.2.2.2.2
 ls : m.2.2.1.l.length ≤ 9223372036854775806
 lc : m.2.2.2.1.l.length ≤ 9223372036854775806
 lv : m.2.2.2.2.l.length ≤ 9223372036854775806
theorem ref07_Same_w {x y : Mx} (hx : Mok x) (hy : Mok y) : ref07_Same x y = some (decide (x.1 = y.1 ∧ x.2.1 = y.2.1 ∧ x.2.2.1.l = y.2.2.1.l ∧ x.2.2.2.1.l = y.2.2.2.1.l ∧ x.2.2.2.2.l = y.2.2.2.2.l)) := by
 rw [ref07_Same_eq, ref03_SameInts_w hx.ls hx.s hy.s, ref03_SameInts_w hx.lc hx.c hy.c, ref07_SameVals_w hx.lv hx.v hy.v]
 simp only [Option.bind_some, decide_eq_true_eq]
 by_cases h1 : x.1 = y.1
 ·by_cases h2 : x.2.1 = y.2.1
  ·by_cases h3 : x.2.2.1.l = y.2.2.1.l
   ·by_cases h4 : x.2.2.2.1.l = y.2.2.2.1.l <;> simp [h1, h2, h3, h4]
   ·simp [h1, h2, h3]
  ·simp [h1, h2]
 ·simp [h1]
theorem law07_Few_w {x : Sl E3} (hs : okS 3 x) : ∃ s : Sl E3, law07_Few x = some s ∧ s.l = x.l.take 60 ∧ okS 3 s ∧ s.nn = x.nn := by
 rw [law07_Few_eq]
 by_cases h : x.l.length > 60
 ·rw [if_pos (by omega)]
  have hz : x.sz = 3 := hs.resolve_left (by intro h'; rw [h'] at h; simp at h)
  refine ⟨⟨x.nn, x.sz, x.l.take 60⟩, ?_, rfl, .inr hz, rfl⟩
  unfold cutS
  rw [if_pos ⟨by omega, by omega, by omega, .inl hz⟩]
  simp
 ·rw [if_neg (by omega)]
  exact ⟨x, rfl, (List.take_of_length_le (by omega)).symm, hs, rfl⟩
theorem w64_of {x : Sl E3} (h : K.W (.S (.C (.I .i64) (.C (.I .i64) (.I .i64)))) x) : okS 3 x ∧ (x.nn = false → x.l = []) ∧ w64 x.l := ⟨.inr h.1, h.2.1, fun y hy => ⟨i64r_of (h.2.2.2 y hy).1, i64r_of (h.2.2.2 y hy).2.1, i64r_of (h.2.2.2 y hy).2.2⟩⟩
end Ev
end Go.Proofs.Ytlkcneneagifoaa
end
section
namespace Go.Proofs.Ytlkcneneagifoaa
namespace Ev
open Go Sm
set_option linter.unusedVariables false
set_option linter.unusedSimpArgs false
structure Is (m : Mx) (n c : Int) (l : List E3) : Prop where
 hn : 0 ≤ n ∧ n ≤ 4096
 hc : 0 ≤ c ∧ c ≤ 4096
 len : l.length ≤ 65536
 r : rises l
 p : ∀ x ∈ l, (0 ≤ x.1 ∧ x.1 < n) ∧ 0 ≤ x.2.1 ∧ x.2.1 < c
 v : ∀ x ∈ l, i64r x.2.2
 e1 : m.1 = n
 e2 : m.2.1 = c
 e3 : m.2.2.1.l = tabN n.toNat fun k => ((cntR l k : Nat) : Int)
 e4 : m.2.2.2.1.l = l.map (·.2.1)
 e5 : m.2.2.2.2.l = l.map (·.2.2)
 o3 : okS 1 m.2.2.1
 o4 : okS 1 m.2.2.2.1
 o5 : okS 1 m.2.2.2.2
section
variable {m : Mx} {n c : Int} {l : List E3}
theorem is_mat (hn : 0 ≤ n ∧ n ≤ 4096) (hc : 0 ≤ c ∧ c ≤ 4096) (hl : l.length ≤ 65536) (h : rises l) (hp : ∀ x ∈ l, (0 ≤ x.1 ∧ x.1 < n) ∧ 0 ≤ x.2.1 ∧ x.2.1 < c) (hv : ∀ x ∈ l, i64r x.2.2) : Is (matV n c l) n c l :=
 ⟨hn, hc, hl, h, hp, hv, rfl, rfl, rfl, mo_l _ _, mo_l _ _, .inr rfl, ok_mo _, ok_mo _⟩
theorem Is.ok (h : Is m n c l) : OkM m := by
 refine ⟨h.o3, h.o4, h.o5, fun y hy => ?_, ?_, ?_, ?_⟩
 ·rw [h.e5] at hy
  obtain ⟨x, hx, rfl⟩ := List.mem_map.1 hy
  exact h.v x hx
 ·rw [h.e3, tabN_len]; have := h.hn; omega
 ·rw [h.e4, List.length_map]; have := h.len; omega
 ·rw [h.e5, List.length_map]; have := h.len; omega
theorem Is.mok (h : Is m n c l) : Mok m := by
 refine ⟨h.o3, h.o4, h.o5, ?_, ?_, ?_⟩
 ·rw [h.e3, tabN_len]; have := h.hn; omega
 ·rw [h.e4, List.length_map]; have := h.len; omega
 ·rw [h.e5, List.length_map]; have := h.len; omega
theorem Is.right (h : Is m n c l) : rightM m = true := by
 have := matV_right h.hn h.hc h.len h.r h.p
 unfold rightM at this ⊢
 simp only [Bool.and_eq_true, decide_eq_true_eq] at this ⊢
 rw [h.e1, h.e2, h.e3, h.e4, h.e5]
 simp only [matV, mo_l] at this
 exact this
theorem csr_Right_is (h : Is m n c l) : csr_Right m = some true := by rw [csr_Right_w h.ok, h.right]
theorem csr_sure_is (h : Is m n c l) : csr_sure m = some m := by rw [csr_sure_eq, csr_Right_is h]; rfl
theorem ref07_Sure_is (h : Is m n c l) : ref07_Sure m = some m := by rw [ref07_Sure_eq, ref07_Right_w h.ok, h.right]; rfl
theorem slices_Equal_ints {x y : Sl Int} (hl : x.l.length ≤ 9223372036854775806) (hx : okS 1 x) (hy : okS 1 y) : slices_Equal_int_int x y = some (decide (x.l = y.l)) := by
 rw [slices_Equal_int_int_eq]
 exact same_slice hl hx hy fun a => by unfold slices_Equal_int_int_b1; rfl
theorem slices_Equal_vals {x y : Sl Int} (hl : x.l.length ≤ 9223372036854775806) (hx : okS 1 x) (hy : okS 1 y) : slices_Equal_int64_int64 x y = some (decide (x.l = y.l)) := by
 rw [slices_Equal_int64_int64_eq]
 exact same_slice hl hx hy fun a => by unfold slices_Equal_int64_int64_b1; rfl
def rowI (l : List E3) (i : Int) : List E3 := l.filter fun x => decide (x.1 = i)
theorem rowI_nat (l : List E3) (i : Nat) : rowI l (i : Int) = rowE l i := by
 unfold rowI rowE
 rw [List.filter_filter]
 refine List.filter_congr fun x _ => ?_
 rw [Bool.eq_iff_iff]
 simp
 omega
theorem rowI_none {i : Int} (h : ∀ x ∈ l, x.1 ≠ i) : rowI l i = [] := by
 unfold rowI
 rw [List.filter_eq_nil_iff]
 exact fun x hx hd => h x hx (by simpa using hd)
theorem cutS_map {s : Sl Int} (hs : okS 1 s) {f : E3 → Int} (e : s.l = l.map f) {a b : Nat} (hab : a ≤ b) (hb : b ≤ l.length) : ∃ t : Sl Int, cutS 1 s (a : Int) (b : Int) = some t ∧ t.l = ((l.drop a).take (b - a)).map f ∧ okS 1 t := by
 have h0 : s.sz = 1 ∨ (a : Int) = 0 := by
  rcases hs with h | h
  ·rw [e, List.map_eq_nil_iff] at h; subst h
   right; simp at hb; omega
  ·exact .inl h
 refine ⟨⟨s.nn, s.sz, (s.l.drop a).take (b - a)⟩, ?_, ?_, ?_⟩
 ·unfold cutS
  rw [if_pos ⟨by omega, by omega, by rw [e, List.length_map]; omega, h0⟩]
  simp
 ·show (s.l.drop a).take (b - a) = _
  rw [e, ← List.map_drop, ← List.map_take]
 ·rcases hs with h | h
  ·exact .inl (by show (s.l.drop a).take (b - a) = []; rw [h]; simp)
  ·exact .inr h
theorem csr_row_is (h : Is m n c l) (i : Int) : ∃ s t : Sl Int, csr_row m i = some (s, t) ∧ s.l = (rowI l i).map (·.2.1) ∧ t.l = (rowI l i).map (·.2.2) ∧ okS 1 s ∧ okS 1 t := by
 rw [csr_row_eq]
 by_cases h0 : i < 0
 ·have hr : rowI l i = [] := rowI_none fun x hx he => by have := (h.p x hx).1; omega
  rw [if_pos h0, hr]
  exact ⟨nilS, nilS, rfl, rfl, rfl, ok_nil, ok_nil⟩
 ·by_cases h1 : i ≥ n
  ·have hr : rowI l i = [] := rowI_none fun x hx he => by have := (h.p x hx).1; omega
   rw [if_neg h0, h.e1, if_pos h1, hr]
   exact ⟨nilS, nilS, rfl, rfl, rfl, ok_nil, ok_nil⟩
  ·obtain ⟨k, rfl⟩ := Int.eq_ofNat_of_zero_le (by omega : 0 ≤ i)
   have hk : k < n.toNat := by omega
   rw [if_neg h0, h.e1, if_neg h1]
   have w1 : IntKind.i64.wrap ((k : Int) + 1) = ((k + 1 : Nat) : Int) := w_succ (n := n.toNat) hk (by have := h.hn; omega)
   have a1 := atS_some' h.o3 (show m.2.2.1.l[k]? = some _ by rw [h.e3]; exact tabN_get _ (by omega))
   have a2 := atS_some' h.o3 (show m.2.2.1.l[k + 1]? = some _ by rw [h.e3]; exact tabN_get _ (by omega))
   obtain ⟨c1, c2⟩ := row_cut h.r k
   have hle := cntR_le l (k + 1)
   obtain ⟨s, s1, s2, s3⟩ := cutS_map h.o4 h.e4 c1 hle
   obtain ⟨t, t1, t2, t3⟩ := cutS_map h.o5 h.e5 c1 hle
   rw [a1, w1, a2]
   simp only [Option.bind_some]
   rw [if_pos ⟨Int.le_refl _, by rw [h.e4, List.length_map]; omega⟩, s1]
   simp only [Option.bind_some]
   rw [if_pos ⟨Int.le_refl _, by rw [h.e5, List.length_map]; omega⟩, t1]
   refine ⟨s, t, rfl, ?_, ?_, s3, t3⟩
   ·rw [s2, c2, rowI_nat]
   ·rw [t2, c2, rowI_nat]
def belR (l : List E3) (k : Int) : List E3 := l.filter fun x => decide (x.1 < k)
theorem belR_succ (h : rises l) (k : Nat) : belR l ((k + 1 : Nat) : Int) = belR l (k : Int) ++ rowI l (k : Int) := by
 have e1 := (take_lt (rises_le h) k).1
 have e2 := (take_lt (rises_le h) (k + 1)).1
 obtain ⟨c1, c2⟩ := row_cut h k
 unfold belR
 rw [← e1, ← e2, rowI_nat, ← c2]
 rw [← List.take_add, show cntR l k + (cntR l (k + 1) - cntR l k) = cntR l (k + 1) by omega]
theorem belR_all {n : Int} (h : ∀ x ∈ l, x.1 < n) : belR l n = l := by
 unfold belR
 rw [List.filter_eq_self]
 exact fun x hx => by simpa using h x hx
theorem belR_none {n : Int} (h : ∀ x ∈ l, n ≤ x.1) : belR l n = [] := by
 unfold belR
 rw [List.filter_eq_nil_iff]
 exact fun x hx hd => by
  have := h x hx; have : x.1 < n := by simpa using hd
  omega
theorem belR_len (l : List E3) (k : Int) : (belR l k).length ≤ l.length := List.length_filter_le _ _
theorem rowI_len (l : List E3) (k : Int) : (rowI l k).length ≤ l.length := List.length_filter_le _ _
theorem rowI_fst {x : E3} {k : Int} (h : x ∈ rowI l k) : x ∈ l ∧ x.1 = k := by
 unfold rowI at h
 rw [List.mem_filter] at h
 exact ⟨h.1, by simpa using h.2⟩
def Got (l : List E3) (i j : Int) (g : Int × Bool) : Prop := (∃ x ∈ l, x.1 = i ∧ x.2.1 = j ∧ g = (x.2.2, true)) ∨ ((∀ x ∈ l, ¬ (x.1 = i ∧ x.2.1 = j)) ∧ g = (0, false))
theorem rises_inj (h : rises l) {x y : E3} (hx : x ∈ l) (hy : y ∈ l) (h1 : x.1 = y.1) (h2 : x.2.1 = y.2.1) : x = y := by
 obtain ⟨a, ha, rfl⟩ := List.mem_iff_getElem.1 hx
 obtain ⟨b, hb, rfl⟩ := List.mem_iff_getElem.1 hy
 have hp := List.pairwise_iff_getElem.1 h
 by_cases hab : a = b
 ·subst hab; rfl
 ·rcases Nat.lt_or_gt_of_ne hab with hl | hl
  ·have := bel_iff.1 (hp a b ha hb hl); omega
  ·have := bel_iff.1 (hp b a hb ha hl); omega
theorem Got.uniq (h : rises l) {i j : Int} {g g' : Int × Bool} (h1 : Got l i j g) (h2 : Got l i j g') : g = g' := by
 rcases h1 with ⟨x, hx, a, b, rfl⟩ | ⟨h3, rfl⟩
 ·rcases h2 with ⟨y, hy, a', b', rfl⟩ | ⟨h4, rfl⟩
  ·rw [rises_inj h hx hy (by omega) (by omega)]
  ·exact absurd ⟨a, b⟩ (h4 x hx)
 ·rcases h2 with ⟨y, hy, a', b', rfl⟩ | ⟨h4, rfl⟩
  ·exact absurd ⟨a', b'⟩ (h3 y hy)
  ·rfl
theorem row_asc (h : rises l) (i : Int) : ((rowI l i).map (·.2.1)).Pairwise (· < ·) := by
 rw [List.pairwise_map]
 have h1 : (rowI l i).Pairwise fun a b => bel a b = true := h.sublist List.filter_sublist
 refine h1.imp_of_mem fun {a b} ha hb hab => ?_
 have := (rowI_fst ha).2
 have := (rowI_fst hb).2
 rw [bel_iff] at hab
 omega
end
end Ev
end Go.Proofs.Ytlkcneneagifoaa
end
section
namespace Go.Proofs.Ytlkcneneagifoaa
namespace Ev
open Go Sm
set_option linter.unusedVariables false
set_option linter.unusedSimpArgs false
theorem u8r_of {n : Int} (h : inK .u8 n) : 0 ≤ n ∧ n ≤ 255 := by simpa [inK, Lit.wf, IntKind.min, IntKind.max, IntKind.signed, IntKind.bits] using h
def size40 (n : Int) : Int := n % 40
theorem law07_Size_w {n : Int} (h : inK .u8 n) : law07_Size n = some (size40 n) ∧ 0 ≤ size40 n ∧ size40 n < 40 := by
 have := u8r_of h
 rw [law07_Size_eq]
 unfold size40 modO
 rw [wrap64 (by omega) (by omega), if_pos (by decide), Int.tmod_eq_emod_of_nonneg (by omega)]
 exact ⟨rfl, by omega, by omega⟩
theorem some_mat {a : Int × Int} (ha : inK .u8 a.1 ∧ inK .u8 a.2) {s : Sl E3} (hs : okS 3 s) (hv : w64 s.l) : ∃ m l, law07_Some a s = some m ∧ Is m (size40 a.1) (size40 a.2) l := by
 obtain ⟨a1, a2⟩ := a
 obtain ⟨z1, z2, z3⟩ := law07_Size_w ha.1
 obtain ⟨y1, y2, y3⟩ := law07_Size_w ha.2
 obtain ⟨t, t1, t2, t3, t4⟩ := law07_Few_w hs
 have tl : t.l.length ≤ 60 := by rw [t2, List.length_take]; omega
 have tv : w64 t.l := fun x hx => hv x (by rw [t2] at hx; exact List.mem_of_mem_take hx)
 rw [law07_Some_eq]
 simp only at z1 z2 z3 y1 y2 y3 ⊢
 simp only [z1, y1, t1, Option.bind_some]
 generalize size40 a1 = n at z2 z3 ⊢
 generalize size40 a2 = c at y2 y3 ⊢
 obtain ⟨q, q1, u, rfl, u1, u2, u3⟩ := loop_up (b := law07_Some_b1 n c t) t.l.length (fun j st => ∃ u : List E3, st = (u, (j : Int)) ∧ u.length ≤ j ∧ (∀ x ∈ u, (0 ≤ x.1 ∧ x.1 < n) ∧ 0 ≤ x.2.1 ∧ x.2.1 < c) ∧ w64 u) (fun q => ∃ u : List E3, q = .inl u ∧ u.length ≤ t.l.length ∧ (∀ x ∈ u, (0 ≤ x.1 ∧ x.1 < n) ∧ 0 ≤ x.2.1 ∧ x.2.1 < c) ∧ w64 u)
  (by
   rintro j _ hj ⟨u, rfl, g1, g2, g3⟩
   have ej := at_get t3 hj
   have hxv := tv _ (List.getElem_mem hj)
   generalize t.l[j] = x at ej hxv
   simp only [law07_Some_b1, ej, Option.bind_some, w_succ hj (by omega)]
   rw [if_pos (by omega)]
   by_cases c1 : x.1 < 0
   ·rw [if_pos c1]; exact .inl ⟨_, rfl, u, rfl, by omega, g2, g3⟩
   by_cases c2 : x.2.1 < 0
   ·rw [if_neg c1, if_pos c2]; exact .inl ⟨_, rfl, u, rfl, by omega, g2, g3⟩
   by_cases c3 : n = 0
   ·rw [if_neg c1, if_neg c2, if_pos c3]; exact .inl ⟨_, rfl, u, rfl, by omega, g2, g3⟩
   by_cases c4 : c = 0
   ·rw [if_neg c1, if_neg c2, if_neg c3, if_pos c4]; exact .inl ⟨_, rfl, u, rfl, by omega, g2, g3⟩
   rw [if_neg c1, if_neg c2, if_neg c3, if_neg c4]
   have m1 : modO x.1 n = some (x.1 % n) := by unfold modO; rw [if_pos c3, Int.tmod_eq_emod_of_nonneg (by omega)]
   have m2 : modO x.2.1 c = some (x.2.1 % c) := by unfold modO; rw [if_pos c4, Int.tmod_eq_emod_of_nonneg (by omega)]
   have ap : ∀ z : E3, app u [z] = some (u ++ [z]) := fun z => app_ok (by simp; unfold bound; omega)
   simp only [m1, m2, Option.bind_some, ap]
   have h1 := Int.emod_nonneg x.1 c3
   have h2 := Int.emod_lt_of_pos x.1 (show 0 < n by omega)
   have h3 := Int.emod_nonneg x.2.1 c4
   have h4 := Int.emod_lt_of_pos x.2.1 (show 0 < c by omega)
   refine .inl ⟨_, rfl, _, rfl, by simp; omega, fun y hy => ?_, fun y hy => ?_⟩
   ·rcases List.mem_append.1 hy with hy | hy
    ·exact g2 y hy
    ·simp only [List.mem_cons, List.not_mem_nil, or_false] at hy
     subst hy
     exact ⟨⟨h1, h2⟩, h3, h4⟩
   ·rcases List.mem_append.1 hy with hy | hy
    ·exact g3 y hy
    ·simp only [List.mem_cons, List.not_mem_nil, or_false] at hy
     subst hy
     exact ⟨by unfold i64r; dsimp only; omega, by unfold i64r; dsimp only; omega, hxv.2.2⟩)
  (by
   rintro _ ⟨u, rfl, g1, g2, g3⟩
   refine ⟨.inl u, ?_, u, rfl, g1, g2, g3⟩
   simp only [law07_Some_b1]
   rw [if_neg (by omega)]) 0 (Nat.zero_le _) ([], 0) ⟨[], rfl, Nat.le_refl _, fun x hx => by simp at hx, fun x hx => by simp at hx⟩
 rw [q1]
 simp only [Option.bind_some, Sum.elim_inl]
 rw [ref07_Of_w (ok_mo _), mo_l]
 simp only [Option.bind_some]
 have hall : u.all (inM n c) = true := by
  rw [List.all_eq_true]
  intro x hx
  unfold inM
  rw [decide_eq_true_eq]
  have := u2 x hx
  omega
 have e : ofV 1 n c u = if (sumR (RG 1) u).2 = 0 then (matV n c (sumR (RG 1) u).1, 0) else (nilM, (sumR (RG 1) u).2) := by
  unfold ofV
  rw [if_pos (by decide), if_pos ⟨sizeF_iff.2 (by omega), sizeF_iff.2 (by omega)⟩, if_pos (by omega), if_pos hall]
 rw [e]
 obtain ⟨s1, s2, s3, s4⟩ := sum_spec (r := 1) (l := u)
 by_cases h0 : (sumR (RG 1) u).2 = 0
 ·rw [if_pos h0, if_neg (by simp)]
  exact ⟨_, _, rfl, is_mat (by omega) (by omega) (by omega) s1 (rows_in hall) fun x hx => (s3 x hx).1⟩
 ·rw [if_neg h0, if_pos h0, wrap64 (by omega) (by omega), capOk_self, len_one (by omega)]
  refine ⟨_, [], rfl, ?_⟩
  have := is_mat (n := n) (c := c) (l := []) (by omega) (by omega) (by simp) List.Pairwise.nil (by simp) (by simp)
  refine ⟨this.hn, this.hc, this.len, this.r, this.p, this.v, rfl, rfl, ?_, rfl, rfl, .inr rfl, .inl rfl, .inl rfl⟩
  show List.replicate (n + 1).toNat (0 : Int) = _
  rw [show (n + 1).toNat = n.toNat + 1 by omega, tabN_zero]
  rfl
end Ev
end Go.Proofs.Ytlkcneneagifoaa
end
section
namespace Go.Proofs.Ytlkcneneagifoaa
namespace Ev
open Go Sm
set_option linter.unusedVariables false
set_option linter.unusedSimpArgs false
def flip3 (x : E3) : E3 := (x.2.1, x.1, x.2.2)
theorem flip_flip (x : E3) : flip3 (flip3 x) = x := rfl
theorem flip_inj {x y : E3} (h : flip3 x = flip3 y) : x = y := by rw [← flip_flip x, h, flip_flip]
theorem mem_flip {l : List E3} {x : E3} : x ∈ l.map flip3 ↔ flip3 x ∈ l := by
 constructor
 ·intro h
  obtain ⟨y, hy, rfl⟩ := List.mem_map.1 h
  exact hy
 ·exact fun h => List.mem_map.2 ⟨_, h, rfl⟩
def leE (a b : E3) : Bool := !bel b a
theorem leE_iff {a b : E3} : leE a b = true ↔ ¬ (b.1 < a.1 ∨ b.1 = a.1 ∧ b.2.1 < a.2.1) := by
 unfold leE
 rw [← bel_iff]
 cases bel b a <;> simp
def turnL (l : List E3) : List E3 := (l.map flip3).mergeSort leE
theorem turn_perm (l : List E3) : (turnL l).Perm (l.map flip3) := List.mergeSort_perm _ _
theorem turn_mem {l : List E3} {x : E3} : x ∈ turnL l ↔ flip3 x ∈ l := by rw [(turn_perm l).mem_iff, mem_flip]
theorem turn_len (l : List E3) : (turnL l).length = l.length := by rw [(turn_perm l).length_eq, List.length_map]
theorem rises_nodup {l : List E3} (h : rises l) : l.Nodup := h.imp fun {a b} hab he => by
 subst he
 have := bel_iff.1 hab
 omega
theorem turn_rises {l : List E3} (h : rises l) : rises (turnL l) := by
 have h1 : (turnL l).Pairwise fun a b => leE a b = true := List.pairwise_mergeSort (fun a b c hab hbc => by rw [leE_iff] at *; omega) (fun a b => by
  rw [Bool.or_eq_true, leE_iff, leE_iff]; omega) _
 have h2 : (turnL l).Nodup := (turn_perm l).nodup_iff.2 (List.pairwise_map.2 ((rises_nodup h).imp fun {a b} hab he => hab (flip_inj he)))
 rw [rises, List.pairwise_iff_getElem]
 intro i j hi hj hij
 have p1 := List.pairwise_iff_getElem.1 h1 i j hi hj hij
 have p2 := List.pairwise_iff_getElem.1 h2 i j hi hj hij
 rw [leE_iff] at p1
 rw [bel_iff]
 by_cases hk : (turnL l)[i].1 = (turnL l)[j].1 ∧ (turnL l)[i].2.1 = (turnL l)[j].2.1
 ·have m1 := turn_mem.1 (List.getElem_mem hi)
  have m2 := turn_mem.1 (List.getElem_mem hj)
  exact absurd (flip_inj (rises_inj h m1 m2 hk.2 hk.1)) p2
 ·omega
theorem rises_ext {l l' : List E3} (h : rises l) (h' : rises l') (hm : ∀ x, x ∈ l ↔ x ∈ l') : l = l' :=
 List.Perm.eq_of_pairwise (le := fun a b => bel a b = true) (fun a b _ _ h1 h2 => by rw [bel_iff] at h1 h2; omega) h h' ((List.perm_ext_iff_of_nodup (rises_nodup h) (rises_nodup h')).2 hm)
theorem turn_turn {l : List E3} (h : rises l) : turnL (turnL l) = l := rises_ext (turn_rises (turn_rises h)) h fun x => by rw [turn_mem, turn_mem, flip_flip]
theorem idx_rising {T : List E3} (h : rises T) {p : Nat} (hp : p < T.length) : T.countP (fun y => bel y T[p]) = p := by
 have hpw := List.pairwise_iff_getElem.1 h
 have e : T = T.take p ++ T[p] :: T.drop (p + 1) := by rw [List.getElem_cons_drop, List.take_append_drop]
 have c : ∀ x, T.countP (fun y => bel y x) = (T.take p).countP (fun y => bel y x) + (T[p] :: T.drop (p + 1)).countP (fun y => bel y x) := fun x => by rw [← List.countP_append, ← e]
 rw [c, List.countP_eq_length.2, List.countP_eq_zero.2]
 ·rw [List.length_take]; omega
 ·intro a ha
  rcases List.mem_cons.1 ha with rfl | ha
  ·rw [bel_iff]; omega
  ·obtain ⟨j, hj, rfl⟩ := List.mem_iff_getElem.1 ha
   rw [List.getElem_drop]
   rw [List.length_drop] at hj
   have := bel_iff.1 (hpw p (p + 1 + j) hp (by omega) (by omega))
   rw [bel_iff]; omega
 ·intro a ha
  obtain ⟨j, hj, rfl⟩ := List.mem_take_iff_getElem.1 ha
  exact hpw j p (by omega) hp (by omega)
def cntK (u : List E3) (k : Nat) : Nat := u.countP fun x => decide (x.2.1 = (k : Int))
theorem cntK_le (u : List E3) (k : Nat) : cntK u k ≤ u.length := List.countP_le_length
theorem cntK_app (u : List E3) (e : E3) (k : Nat) : cntK (u ++ [e]) k = cntK u k + if e.2.1 = (k : Int) then 1 else 0 := by
 unfold cntK
 rw [List.countP_append]
 congr 1
 by_cases h : e.2.1 = (k : Int) <;> simp [h]
theorem cnt_split {a : Int} : ∀ u : List E3, u.countP (fun y => decide (y.2.1 < a ∨ y.2.1 = a)) = u.countP (fun y => decide (y.2.1 < a)) + u.countP (fun y => decide (y.2.1 = a))
 | [] => rfl
 | x :: u => by
  have ih := cnt_split (a := a) u
  simp only [List.countP_cons, ih]
  by_cases h1 : x.2.1 < a
  ·have h2 : ¬ x.2.1 = a := by omega
   simp [h1, h2]; omega
  ·by_cases h2 : x.2.1 = a
   ·simp [h2]; omega
   ·simp [h1, h2]
theorem turn_place {l u w : List E3} {e : E3} (hl : l = u ++ e :: w) (h : rises l) {k : Nat} (hk : e.2.1 = (k : Int)) : (turnL l)[cntR (l.map flip3) k + cntK u k]? = some (flip3 e) := by
 have he : e ∈ l := by rw [hl]; simp
 obtain ⟨p, hp, hpe⟩ := List.mem_iff_getElem.1 (turn_mem.2 (show flip3 (flip3 e) ∈ l from he))
 have hi := idx_rising (turn_rises h) hp
 rw [hpe, (turn_perm l).countP_eq, List.countP_map] at hi
 have hc : cntR (l.map flip3) k = l.countP fun y => decide (y.2.1 < (k : Int)) := by unfold cntR; rw [List.countP_map]; rfl
 rw [hl, rises, List.pairwise_append] at h
 obtain ⟨h1, h2, h3⟩ := h
 obtain ⟨h4, h5⟩ := List.pairwise_cons.1 h2
 have c1 : u.countP ((fun y => bel y (flip3 e)) ∘ flip3) = u.countP (fun y => decide (y.2.1 < (k : Int) ∨ y.2.1 = (k : Int))) := List.countP_congr fun y hy => by
  have := bel_iff.1 (h3 y hy e List.mem_cons_self)
  show bel (flip3 y) (flip3 e) = true ↔ _
  rw [bel_iff, decide_eq_true_eq]
  show y.2.1 < e.2.1 ∨ y.2.1 = e.2.1 ∧ y.1 < e.1 ↔ _
  rw [hk]
  omega
 have c2 : (e :: w).countP ((fun y => bel y (flip3 e)) ∘ flip3) = (e :: w).countP (fun y => decide (y.2.1 < (k : Int))) := List.countP_congr fun y hy => by
  show bel (flip3 y) (flip3 e) = true ↔ _
  rw [bel_iff, decide_eq_true_eq]
  show y.2.1 < e.2.1 ∨ y.2.1 = e.2.1 ∧ y.1 < e.1 ↔ _
  rw [hk]
  rcases List.mem_cons.1 hy with rfl | hy
  ·omega
  ·have := bel_iff.1 (h4 y hy)
   omega
 have : cntR (l.map flip3) k + cntK u k = p := by
  rw [← hi, hc, hl, List.countP_append, List.countP_append, c1, c2, cnt_split]
  unfold cntK
  omega
 rw [this, List.getElem?_eq_getElem hp, hpe]
theorem turn_set {l u w : List E3} {e : E3} (hl : l = u ++ e :: w) (h : rises l) {k : Nat} (hk : e.2.1 = (k : Int)) (g : E3 → Int) : ((turnL l).map fun x => if flip3 x ∈ u then g x else 0).set (cntR (l.map flip3) k + cntK u k) (g (flip3 e)) = (turnL l).map fun x => if flip3 x ∈ u ++ [e] then g x else 0 := by
 have hp := turn_place hl h hk
 have hnd := rises_nodup (turn_rises h)
 refine List.ext_getElem? fun j => ?_
 rw [List.getElem?_set]
 by_cases hj : cntR (l.map flip3) k + cntK u k = j
 ·rw [if_pos hj]
  rw [hj] at hp
  have hlt := (List.getElem?_eq_some_iff.1 hp).1
  rw [if_pos (by rw [hj, List.length_map]; exact hlt), List.getElem?_map, hp]
  simp [flip_flip]
 ·rw [if_neg hj, List.getElem?_map, List.getElem?_map]
  cases hx : (turnL l)[j]? with
  | none => rfl
  | some x =>
   have hne : flip3 x ≠ e := by
    intro he
    obtain ⟨a1, a2⟩ := List.getElem?_eq_some_iff.1 hx
    obtain ⟨b1, b2⟩ := List.getElem?_eq_some_iff.1 hp
    refine hj ?_
    have hxe : x = flip3 e := by rw [← he, flip_flip]
    have hpw := List.pairwise_iff_getElem.1 hnd
    rcases Nat.lt_trichotomy (cntR (l.map flip3) k + cntK u k) j with hlt | heq | hlt
    ·exact absurd (b2.trans (hxe.symm.trans a2.symm)) (hpw _ _ b1 a1 hlt)
    ·exact heq
    ·exact absurd (a2.trans (hxe.trans b2.symm)) (hpw _ _ a1 b1 hlt)
   simp [hne]
theorem prefix_loop {k : Nat} (hk : k ≤ 4096) {l : List E3} (hl : l.length ≤ 65536) (hr : ∀ x ∈ l, 0 ≤ x.1) : loopO csr_Turn_b2 (1, tabN k (fun i => ((cntE l i : Nat) : Int))) = some (.inl (tabN k fun i => ((cntR l i : Nat) : Int))) := by
 have h0 : cntR l 0 = cntE l 0 := by
  unfold cntR cntE
  refine List.countP_congr fun x hx => ?_
  have := hr x hx
  simp; omega
 refine loop_stop k (fun j => (((j + 1 : Nat) : Int), tabN k (fun i => if i ≤ j then ((cntR l i : Nat) : Int) else ((cntE l i : Nat) : Int)))) ?_ (fun j hj => ?_) ?_
 ·rw [Prod.mk.injEq]
  refine ⟨rfl, tabN_congr fun i hi => ?_⟩
  by_cases h : i ≤ 0
  ·rw [if_pos h, show i = 0 by omega, h0]
  ·rw [if_neg h]
 ·have e1 : atL (tabN k (fun i => if i ≤ j then ((cntR l i : Nat) : Int) else ((cntE l i : Nat) : Int))) ((j + 1 : Nat) : Int) = some ((cntE l (j + 1) : Nat) : Int) := atL_some' (by rw [tabN_get _ (by omega), if_neg (by omega)])
  have e2 : atL (tabN k (fun i => if i ≤ j then ((cntR l i : Nat) : Int) else ((cntE l i : Nat) : Int))) (j : Int) = some ((cntR l j : Nat) : Int) := atL_some' (by rw [tabN_get _ (by omega), if_pos (by omega)])
  have w1 : IntKind.i64.wrap (((j + 1 : Nat) : Int) - 1) = (j : Int) := by rw [wrap64 (by omega) (by omega)]; omega
  have w2 : IntKind.i64.wrap (((j + 1 : Nat) : Int) + 1) = ((j + 1 + 1 : Nat) : Int) := by rw [wrap64 (by omega) (by omega)]; omega
  have c1 := cntE_le l (j + 1)
  have c2 := cntR_le l j
  have w3 : IntKind.i64.wrap (((cntE l (j + 1) : Nat) : Int) + ((cntR l j : Nat) : Int)) = ((cntE l (j + 1) : Nat) : Int) + ((cntR l j : Nat) : Int) := wrap64 (by omega) (by omega)
  simp only [csr_Turn_b2, e1, e2, w1, w2, w3, Option.bind_some, Int.toNat_natCast, tabN_len]
  rw [if_pos (by omega), tabN_set _ _ (by omega)]
  refine congrArg (fun z => some (Sum.inl ((((j + 1 + 1 : Nat) : Int), z)))) (tabN_congr fun i hi => ?_)
  have := cntR_succ l j
  by_cases h : i = j + 1
  ·rw [if_pos h, if_pos (by omega), h, this]; omega
  ·rw [if_neg h]
   by_cases h2 : i ≤ j
   ·rw [if_pos h2, if_pos (by omega)]
   ·rw [if_neg h2, if_neg (by omega)]
 ·simp only [csr_Turn_b2, tabN_len]
  rw [if_neg (by omega)]
  refine congrArg (fun z => some (Sum.inr (Sum.inl z))) (tabN_congr fun i hi => ?_)
  rw [if_pos hi]
section
variable {m : Mx} {n c : Int} {l : List E3}
theorem count_loop (h : Is m n c l) : loopO (csr_Turn_b1 m) (0, tabN c.toNat fun _ => 0) = some (.inl (tabN c.toNat fun i => ((cntE (l.map flip3) i : Nat) : Int))) := by
 have hc := h.hc
 have hlen := h.len
 refine loop_stop l.length (fun j => ((j : Int), tabN c.toNat (fun i => ((cntE ((l.take j).map flip3) i : Nat) : Int)))) rfl (fun j hj => ?_) ?_
 ·have ej := atS_some' h.o4 (show m.2.2.2.1.l[j]? = some l[j].2.1 by rw [h.e4, List.getElem?_map, List.getElem?_eq_getElem hj]; rfl)
  have hx := h.p _ (List.getElem_mem hj)
  obtain ⟨row, hrow⟩ := Int.eq_ofNat_of_zero_le hx.2.1
  have hlen2 : ((l.take j).map flip3).length ≤ 65536 := by simp; omega
  have hw : IntKind.i64.wrap (l[j].2.1 + 1) = ((row + 1 : Nat) : Int) := by rw [wrap64 (by omega) (by omega)]; omega
  have hat : atL (tabN c.toNat fun i => ((cntE ((l.take j).map flip3) i : Nat) : Int)) ((row + 1 : Nat) : Int) = some ((cntE ((l.take j).map flip3) (row + 1) : Nat) : Int) := atL_some' (tabN_get _ (by omega))
  have hcc := cntE_le ((l.take j).map flip3) (row + 1)
  have hw2 : IntKind.i64.wrap (((cntE ((l.take j).map flip3) (row + 1) : Nat) : Int) + 1) = ((cntE ((l.take j).map flip3) (row + 1) : Nat) : Int) + 1 := wrap64 (by omega) (by omega)
  simp only [csr_Turn_b1, ej, Option.bind_some, hw, hat, hw2, Int.toNat_natCast, w_succ hj (by omega)]
  rw [if_pos (by rw [h.e4, List.length_map]; omega), tabN_set _ _ (by omega), List.take_succ_eq_append_getElem hj, List.map_append]
  simp only [List.map_cons, List.map_nil]
  refine congrArg (fun z => some (Sum.inl ((((j + 1 : Nat) : Int), z)))) (tabN_congr fun i hi => ?_)
  rw [cntE_app]
  show _ = ((cntE ((l.take j).map flip3) i + if l[j].2.1 + 1 = (i : Int) then 1 else 0 : Nat) : Int)
  rw [hrow]
  by_cases h : i = row + 1
  ·rw [if_pos h, if_pos (by omega), h]; omega
  ·rw [if_neg h, if_neg (by omega)]; omega
 ·simp only [csr_Turn_b1]
  rw [if_neg (by rw [h.e4, List.length_map]; omega), List.take_length]
def setV (l u : List E3) (g : E3 → Int) : List Int := (turnL l).map fun x => if flip3 x ∈ u then g x else 0
def atV (c : Int) (l u : List E3) : List Int := tabN c.toNat fun k => ((cntR (l.map flip3) k + cntK u k : Nat) : Int)
theorem row_loop (h : Is m n c l) {q : List Int × List Int × List Int} {i : Int} {u R w : List E3} (hl : l = u ++ R ++ w) (hR : ∀ x ∈ R, x.1 = i) {s t : Sl Int} (hs : s.l = R.map (·.2.1)) (ht : t.l = R.map (·.2.2)) (os : okS 1 s) (ot : okS 1 t) :
  loopO (csr_Turn_b3 (i, q) (s, t)) (0, setV l u (·.2.1), setV l u (·.2.2), atV c l u) = some (.inl (setV l (u ++ R) (·.2.1), setV l (u ++ R) (·.2.2), atV c l (u ++ R))) := by
 have hc := h.hc
 have hlen := h.len
 have hRl : R.length ≤ 65536 := by have := congrArg List.length hl; simp at this; omega
 refine loop_stop R.length (fun j => ((j : Int), setV l (u ++ R.take j) (·.2.1), setV l (u ++ R.take j) (·.2.2), atV c l (u ++ R.take j))) (by simp) (fun j hj => ?_) ?_
 ·have g := List.getElem?_eq_getElem hj
  have a1 := atS_some' os (show s.l[j]? = some R[j].2.1 by rw [hs, List.getElem?_map, g]; rfl)
  have a2 := atS_some' ot (show t.l[j]? = some R[j].2.2 by rw [ht, List.getElem?_map, g]; rfl)
  have hl2 : l = (u ++ R.take j) ++ R[j] :: (R.drop (j + 1) ++ w) := by
   rw [hl]
   have hsp : R = R.take j ++ R[j] :: R.drop (j + 1) := by rw [List.getElem_cons_drop, List.take_append_drop]
   have : R ++ w = R.take j ++ R[j] :: (R.drop (j + 1) ++ w) := by
    rw [← List.cons_append, ← List.append_assoc, ← hsp]
   rw [List.append_assoc, this, List.append_assoc]
  have hx := h.p R[j] (by rw [hl]; simp)
  obtain ⟨k, hk⟩ := Int.eq_ofNat_of_zero_le hx.2.1
  have hp := turn_place hl2 h.r hk
  have e1 := turn_set hl2 h.r hk (·.2.1)
  have e2 := turn_set hl2 h.r hk (·.2.2)
  have hi : (flip3 R[j]).2.1 = i := hR _ (List.getElem_mem hj)
  have hu : u ++ R.take (j + 1) = u ++ R.take j ++ [R[j]] := by rw [List.take_succ_eq_append_getElem hj, List.append_assoc]
  have c1 := cntR_le (l.map flip3) k
  have c2 := cntK_le (u ++ R.take j) k
  have c3 : (u ++ R.take j).length ≤ 65536 := by have := congrArg List.length hl2; simp at this ⊢; omega
  rw [List.length_map] at c1
  have b1 : atL (atV c l (u ++ R.take j)) R[j].2.1 = some ((cntR (l.map flip3) k + cntK (u ++ R.take j) k : Nat) : Int) := by
   rw [hk]; exact atL_some' (tabN_get _ (by omega))
  have hgs : ∀ g : E3 → Int, ∃ v, (setV l (u ++ R.take j) g)[cntR (l.map flip3) k + cntK (u ++ R.take j) k]? = some v := fun g => ⟨_, by unfold setV; rw [List.getElem?_map, hp]; rfl⟩
  obtain ⟨v1, hv1⟩ := hgs (·.2.1)
  obtain ⟨v2, hv2⟩ := hgs (·.2.2)
  have b2 := atL_some' hv1
  have b3 := atL_some' hv2
  have w1 : IntKind.i64.wrap (((cntR (l.map flip3) k + cntK (u ++ R.take j) k : Nat) : Int) + 1) = ((cntR (l.map flip3) k + cntK (u ++ R.take j) k + 1 : Nat) : Int) := by rw [wrap64 (by omega) (by omega)]; rfl
  simp only [csr_Turn_b3]
  rw [if_pos (by rw [hs, List.length_map]; omega)]
  simp only [a1, a2, b1, b2, b3, w1, Option.bind_some, w_succ hj (by omega), Int.toNat_natCast]
  refine congrArg some (congrArg Sum.inl ?_)
  simp only [Prod.mk.injEq, true_and]
  refine ⟨?_, ?_, ?_⟩
  ·rw [hu, ← hi]; exact e1
  ·rw [hu]; exact e2
  ·rw [hu, hk, Int.toNat_natCast]
   unfold atV
   rw [tabN_set _ _ (by omega)]
   refine tabN_congr fun i2 hi2 => ?_
   rw [cntK_app, hk]
   by_cases h : i2 = k
   ·subst h; simp; omega
   ·rw [if_neg h, if_neg (by omega)]; omega
 ·simp only [csr_Turn_b3]
  rw [if_neg (by rw [hs, List.length_map]; omega), List.take_length]
theorem setV_all (l : List E3) (g : E3 → Int) : setV l l g = (turnL l).map g := by
 unfold setV
 refine List.map_congr_left fun x hx => ?_
 rw [if_pos (turn_mem.1 hx)]
theorem setV_nil (l : List E3) (g : E3 → Int) : setV l [] g = List.replicate l.length 0 := by
 unfold setV
 rw [← turn_len l, List.eq_replicate_iff]
 exact ⟨List.length_map .., fun b hb => by obtain ⟨x, _, rfl⟩ := List.mem_map.1 hb; simp⟩
theorem csr_Turn_x (h : Is m n c l) : csr_Turn m = some (c, n, ⟨true, 1, tabN c.toNat fun i => ((cntR (l.map flip3) i : Nat) : Int)⟩, ⟨true, 1, (turnL l).map (·.2.1)⟩, ⟨true, 1, (turnL l).map (·.2.2)⟩) := by
 have hc := h.hc
 have hn := h.hn
 have hlen := h.len
 have tk : (c + 1).toNat = c.toNat + 1 := by omega
 rw [csr_Turn_eq, csr_sure_is h]
 simp only [Option.bind_some]
 rw [h.e1, h.e2, h.e4, h.e5, wrap64 (by omega) (by omega), capOk_self, len_one hc, List.length_map, List.length_map, capOk_self, len_ok (by omega)]
 simp only [Option.bind_some, tk, Int.toNat_natCast]
 rw [tabN_zero, count_loop h]
 simp only [Option.bind_some, Sum.elim_inl]
 rw [prefix_loop (by omega) (by rw [List.length_map]; exact hlen) (fun x hx => (h.p _ (mem_flip.1 hx)).2.1)]
 simp only [Option.bind_some, Sum.elim_inl]
 rw [app_ok (by rw [tabN_len]; unfold bound; simp; omega), List.nil_append]
 simp only [Option.bind_some]
 have q : loopO (csr_Turn_b4 m) (0, List.replicate l.length 0, List.replicate l.length 0, tabN c.toNat fun i => ((cntR (l.map flip3) i : Nat) : Int)) = some (.inl ((turnL l).map (·.2.1), (turnL l).map (·.2.2))) := by
  refine loop_stop n.toNat (fun i => ((i : Int), setV l (belR l (i : Int)) (·.2.1), setV l (belR l (i : Int)) (·.2.2), atV c l (belR l (i : Int)))) ?_ (fun i hi => ?_) ?_
  ·rw [show ((0 : Nat) : Int) = 0 from rfl, belR_none fun x hx => (h.p x hx).1.1, setV_nil, setV_nil]
   refine congrArg (fun z => ((0 : Int), List.replicate l.length (0 : Int), List.replicate l.length (0 : Int), z)) (tabN_congr fun i hi => ?_)
   simp [cntK]
  ·obtain ⟨s, t, e1, e2, e3, e4, e5⟩ := csr_row_is h (i : Int)
   simp only [csr_Turn_b4]
   rw [h.e1, if_pos (by omega), e1]
   simp only [Option.bind_some]
   have hsplit : l = belR l (i : Int) ++ rowI l (i : Int) ++ (l.filter fun x => !decide (x.1 < ((i + 1 : Nat) : Int))) := by
    rw [← belR_succ h.r]
    exact (split_lt (rises_le h.r) _).symm
   rw [row_loop h hsplit (fun x hx => (rowI_fst hx).2) e2 e3 e4 e5]
   simp only [Option.bind_some, Sum.elim_inl]
   rw [w_succ hi (by omega), belR_succ h.r]
  ·simp only [csr_Turn_b4]
   rw [h.e1, if_neg (by omega), belR_all fun x hx => by have := (h.p x hx).1; omega, setV_all, setV_all]
 rw [q]
 simp only [Option.bind_some, Sum.elim_inl]
end
end Ev
end Go.Proofs.Ytlkcneneagifoaa
end
section
namespace Go.Proofs.Ytlkcneneagifoaa
namespace Ev
open Go Sm
set_option linter.unusedVariables false
set_option linter.unusedSimpArgs false
def rowT (m : Mx) (i : Nat) : List E3 := (itemsM m i).map fun p => ((i : Int), p.1, p.2)
def triN (m : Mx) : Nat → List E3
 | 0 => []
 | k + 1 => triN m k ++ rowT m k
section
variable {m : Mx}
theorem right_ends (h : rightM m = true) : m.2.2.1.l.getD 0 0 = 0 ∧ m.2.2.1.l.getD m.1.toNat 0 = m.2.2.2.1.l.length := by
 unfold rightM at h
 simp only [Bool.and_eq_true, decide_eq_true_eq] at h
 exact ⟨h.2.2.2.1, h.2.2.2.2.2.2.1⟩
theorem rowT_maps (hr : rightM m = true) {i : Nat} (hi : (i : Int) < m.1) : (rowT m i).map (·.2.1) = cutL m.2.2.2.1.l (m.2.2.1.l.getD i 0) (m.2.2.1.l.getD (i + 1) 0) ∧ (rowT m i).map (·.2.2) = cutL m.2.2.2.2.l (m.2.2.1.l.getD i 0) (m.2.2.1.l.getD (i + 1) 0) := by
 obtain ⟨r1, r2, r3, r4, r5, r6⟩ := rightM_spec hr
 obtain ⟨p1, p2, p3, p4⟩ := r6 i hi
 have l1 := cutL_len (l := m.2.2.2.1.l) ⟨p1, p2, p3⟩
 have l2 := cutL_len (l := m.2.2.2.2.l) (f := m.2.2.1.l.getD i 0) (t := m.2.2.1.l.getD (i + 1) 0) ⟨p1, p2, by omega⟩
 unfold rowT itemsM
 rw [List.map_map, List.map_map]
 constructor
 ·show List.map Prod.fst _ = _
  rw [List.map_fst_zip (by omega)]
 ·show List.map Prod.snd _ = _
  rw [List.map_snd_zip (by omega)]
theorem triN_maps (hr : rightM m = true) : ∀ k : Nat, (k : Int) ≤ m.1 → (triN m k).map (·.2.1) = m.2.2.2.1.l.take (m.2.2.1.l.getD k 0).toNat ∧ (triN m k).map (·.2.2) = m.2.2.2.2.l.take (m.2.2.1.l.getD k 0).toNat
 | 0, _ => by
  rw [(right_ends hr).1]
  exact ⟨rfl, rfl⟩
 | k + 1, h => by
  obtain ⟨i1, i2⟩ := triN_maps hr k (by omega)
  obtain ⟨e1, e2⟩ := rowT_maps hr (i := k) (by omega)
  obtain ⟨r1, r2, r3, r4, r5, r6⟩ := rightM_spec hr
  obtain ⟨p1, p2, p3, p4⟩ := r6 k (by omega)
  have hs : (m.2.2.1.l.getD (k + 1) 0).toNat = (m.2.2.1.l.getD k 0).toNat + ((m.2.2.1.l.getD (k + 1) 0).toNat - (m.2.2.1.l.getD k 0).toNat) := by omega
  constructor
  ·show (triN m k ++ rowT m k).map _ = _
   rw [List.map_append, i1, e1, hs, List.take_add]
   rfl
  ·show (triN m k ++ rowT m k).map _ = _
   rw [List.map_append, i2, e2, hs, List.take_add]
   rfl
theorem triN_len (hr : rightM m = true) {k : Nat} (h : (k : Int) ≤ m.1) : ((triN m k).length : Int) = m.2.2.1.l.getD k 0 := by
 have e := congrArg List.length (triN_maps hr k h).1
 rw [List.length_map, List.length_take] at e
 obtain ⟨r1, r2, r3, r4, r5, r6⟩ := rightM_spec hr
 have hb : 0 ≤ m.2.2.1.l.getD k 0 ∧ m.2.2.1.l.getD k 0 ≤ m.2.2.2.1.l.length := by
  cases k with
  | zero => rw [(right_ends hr).1]; omega
  | succ k => have := r6 k (by omega); omega
 omega
theorem rowT_mem (hr : rightM m = true) {i : Nat} (hi : (i : Int) < m.1) {x : E3} (hx : x ∈ rowT m i) : x.1 = (i : Int) ∧ 0 ≤ x.2.1 ∧ x.2.1 < m.2.1 := by
 obtain ⟨r1, r2, r3, r4, r5, r6⟩ := rightM_spec hr
 obtain ⟨p1, p2, p3, p4⟩ := r6 i hi
 have h1 : x.2.1 ∈ (rowT m i).map (·.2.1) := List.mem_map.2 ⟨x, hx, rfl⟩
 rw [(rowT_maps hr hi).1] at h1
 have := (ascI_iff'.1 p4).2 _ h1
 refine ⟨?_, by omega, by omega⟩
 unfold rowT at hx
 obtain ⟨p, _, rfl⟩ := List.mem_map.1 hx
 rfl
theorem triN_mem (hr : rightM m = true) {x : E3} : ∀ {k : Nat}, (k : Int) ≤ m.1 → x ∈ triN m k → (0 ≤ x.1 ∧ x.1 < (k : Int)) ∧ 0 ≤ x.2.1 ∧ x.2.1 < m.2.1
 | 0, _, hx => by simp [triN] at hx
 | k + 1, h, hx => by
  rcases List.mem_append.1 (show x ∈ triN m k ++ rowT m k from hx) with hx | hx
  ·have := triN_mem hr (k := k) (by omega) hx
   exact ⟨by omega, this.2⟩
  ·have := rowT_mem hr (by omega) hx
   exact ⟨by omega, this.2⟩
theorem triN_rises (hr : rightM m = true) : ∀ {k : Nat}, (k : Int) ≤ m.1 → rises (triN m k)
 | 0, _ => List.Pairwise.nil
 | k + 1, h => by
  show (triN m k ++ rowT m k).Pairwise _
  rw [List.pairwise_append]
  refine ⟨triN_rises hr (by omega), ?_, fun a ha b hb => ?_⟩
  ·obtain ⟨r1, r2, r3, r4, r5, r6⟩ := rightM_spec hr
   obtain ⟨p1, p2, p3, p4⟩ := r6 k (by omega)
   have h1 := (ascI_iff'.1 p4).1
   rw [← (rowT_maps hr (i := k) (by omega)).1, List.pairwise_map] at h1
   refine h1.imp_of_mem fun {a b} ha hb hab => ?_
   have := (rowT_mem hr (by omega) ha).1
   have := (rowT_mem hr (by omega) hb).1
   rw [bel_iff]; omega
  ·have := triN_mem hr (by omega) ha
   have := rowT_mem hr (by omega) hb
   rw [bel_iff]; omega
theorem triN_cnt (hr : rightM m = true) : ∀ {j : Nat}, (j : Int) ≤ m.1 → ∀ k, k ≤ j → cntR (triN m j) k = (triN m k).length
 | 0, _, k, hk => by
  obtain rfl : k = 0 := by omega
  rfl
 | j + 1, h, k, hk => by
  by_cases hkj : k ≤ j
  ·have ih := triN_cnt hr (j := j) (by omega) k hkj
   show (triN m j ++ rowT m j).countP _ = _
   rw [List.countP_append]
   have h0 : (rowT m j).countP (fun x => decide (x.1 < (k : Int))) = 0 := List.countP_eq_zero.2 fun x hx hd => by
    have := (rowT_mem hr (by omega) hx).1
    have : x.1 < (k : Int) := by simpa using hd
    omega
   rw [h0]
   exact ih
  ·obtain rfl : k = j + 1 := by omega
   exact List.countP_eq_length.2 fun x hx => by
    have := (triN_mem hr h hx).1.2
    simpa using this
theorem right_is (ok : OkM m) (hr : rightM m = true) : Is m m.1 m.2.1 (triN m m.1.toNat) := by
 obtain ⟨r1, r2, r3, r4, r5, r6⟩ := rightM_spec hr
 have hk : ((m.1.toNat : Nat) : Int) ≤ m.1 := by omega
 have hl := triN_len hr hk
 rw [(right_ends hr).2] at hl
 obtain ⟨e1, e2⟩ := triN_maps hr m.1.toNat hk
 rw [(right_ends hr).2, Int.toNat_natCast] at e1 e2
 rw [List.take_length] at e1
 rw [List.take_of_length_le (by omega)] at e2
 refine ⟨r1, r2, by omega, triN_rises hr hk, fun x hx => ?_, fun x hx => ?_, rfl, rfl, ?_, e1.symm, e2.symm, ok.st, ok.co, ok.va⟩
 ·have := triN_mem hr hk hx
  exact ⟨by omega, this.2⟩
 ·exact ok.v64 _ (by rw [← e2]; exact List.mem_map.2 ⟨x, hx, rfl⟩)
 ·refine List.ext_getElem? fun j => ?_
  by_cases hj : j ≤ m.1.toNat
  ·rw [tabN_get _ hj, triN_cnt hr hk j hj, triN_len hr (by omega), List.getElem?_eq_getElem (by omega), ← getD_lt]
  ·rw [List.getElem?_eq_none (by omega), List.getElem?_eq_none (by rw [tabN_len]; omega)]
end
end Ev
end Go.Proofs.Ytlkcneneagifoaa
end
section
namespace Go.Proofs.Ytlkcneneagifoaa
namespace Ev
open Go Sm
set_option linter.unusedVariables false
set_option linter.unusedSimpArgs false
abbrev Cx := Int × Int × Sl Int × Sl Int × Sl Int × Sl Int
def neC (T : List E3) (k : Nat) : Bool := decide (cntR T k < cntR T (k + 1))
def colsN (T : List E3) (n : Nat) : List Int := ((List.range n).filter (neC T)).map fun (k : Nat) => (k : Int)
def endsN (T : List E3) (n : Nat) : List Int := ((List.range n).filter (neC T)).map fun (k : Nat) => ((cntR T (k + 1) : Nat) : Int)
def startN (T : List E3) (n : Nat) : List Int := 0 :: endsN T n
section
variable {T : List E3}
theorem colsN_succ (n : Nat) : colsN T (n + 1) = colsN T n ++ if neC T n = true then [(n : Int)] else [] := by
 unfold colsN
 rw [List.range_succ, List.filter_append, List.map_append]
 by_cases h : neC T n = true <;> simp [h]
theorem endsN_succ (n : Nat) : endsN T (n + 1) = endsN T n ++ if neC T n = true then [((cntR T (n + 1) : Nat) : Int)] else [] := by
 unfold endsN
 rw [List.range_succ, List.filter_append, List.map_append]
 by_cases h : neC T n = true <;> simp [h]
theorem ends_len (n : Nat) : (endsN T n).length = (colsN T n).length := by unfold endsN colsN; simp
theorem start_len (n : Nat) : (startN T n).length = (colsN T n).length + 1 := by unfold startN; rw [List.length_cons, ends_len]
theorem startN_succ (n : Nat) : startN T (n + 1) = startN T n ++ if neC T n = true then [((cntR T (n + 1) : Nat) : Int)] else [] := by
 unfold startN
 rw [endsN_succ, List.cons_append]
theorem cols_len (n : Nat) : (colsN T n).length ≤ n := by
 unfold colsN
 rw [List.length_map]
 exact Nat.le_trans (List.length_filter_le _ _) (by rw [List.length_range]; exact Nat.le_refl _)
theorem cnt_succ (T : List E3) (k : Nat) : cntR T (k + 1) = cntR T k + (rowI T (k : Int)).length := by
 unfold cntR rowI
 induction T with
 | nil => rfl
 | cons x l ih =>
  rw [List.countP_cons, List.countP_cons, List.filter_cons, ih]
  by_cases h : x.1 < (k : Int)
  ·rw [if_pos (decide_eq_true (by omega)), if_pos (decide_eq_true h), if_neg (by simp; omega)]
   omega
  ·by_cases h2 : x.1 = (k : Int)
   ·rw [if_pos (decide_eq_true (by omega)), if_neg (by simpa using h), if_pos (decide_eq_true h2), List.length_cons]
    omega
   ·rw [if_neg (by simp; omega), if_neg (by simpa using h), if_neg (by simpa using h2)]
    omega
theorem neC_iff {k : Nat} : neC T k = true ↔ rowI T (k : Int) ≠ [] := by
 unfold neC
 rw [cnt_succ, decide_eq_true_eq, ← List.length_pos_iff]
 omega
theorem cnt_zero (h0 : ∀ x ∈ T, 0 ≤ x.1) : cntR T 0 = 0 := by
 unfold cntR
 rw [List.countP_eq_zero]
 intro x hx
 have := h0 x hx
 simp
 omega
theorem cols_mem {n : Nat} {x : Int} : x ∈ colsN T n ↔ ∃ j : Nat, x = (j : Int) ∧ j < n ∧ neC T j = true := by
 unfold colsN
 rw [List.mem_map]
 constructor
 ·rintro ⟨j, h1, h2⟩
  rw [List.mem_filter, List.mem_range] at h1
  exact ⟨j, h2.symm, h1⟩
 ·rintro ⟨j, h1, h2⟩
  exact ⟨j, by rw [List.mem_filter, List.mem_range]; exact h2, h1.symm⟩
theorem cols_asc (n : Nat) : (colsN T n).Pairwise (· < ·) := by
 unfold colsN
 rw [List.pairwise_map]
 exact (List.pairwise_lt_range.sublist List.filter_sublist).imp fun h => by omega
theorem start_last (h0 : ∀ x ∈ T, 0 ≤ x.1) : ∀ n : Nat, (startN T n)[(colsN T n).length]? = some ((cntR T n : Nat) : Int)
 | 0 => by rw [cnt_zero h0]; rfl
 | n + 1 => by
  rw [startN_succ, colsN_succ]
  by_cases h : neC T n = true
  ·rw [if_pos h, if_pos h, List.length_append, List.length_singleton, List.getElem?_append_right (by rw [start_len]; exact Nat.le_refl _), start_len, Nat.sub_self]
   rfl
  ·rw [if_neg h, if_neg h, List.append_nil, List.append_nil, start_last h0 n]
   have : ¬ cntR T n < cntR T (n + 1) := by simpa [neC] using h
   have h3 := cnt_succ T n
   have : cntR T (n + 1) = cntR T n := by omega
   rw [this]
theorem start_at (h0 : ∀ x ∈ T, 0 ≤ x.1) : ∀ (n i j : Nat), (colsN T n)[i]? = some (j : Int) → (j < n ∧ neC T j = true) ∧ (startN T n)[i]? = some ((cntR T j : Nat) : Int) ∧ (startN T n)[i + 1]? = some ((cntR T (j + 1) : Nat) : Int)
 | 0, i, j, h => by simp [colsN] at h
 | n + 1, i, j, h => by
  have hL := start_len (T := T) n
  by_cases hn : neC T n = true
  ·rw [colsN_succ, if_pos hn] at h
   rw [startN_succ, if_pos hn]
   by_cases hi : i < (colsN T n).length
   ·rw [List.getElem?_append_left hi] at h
    obtain ⟨⟨h1, h2⟩, h3, h4⟩ := start_at h0 n i j h
    exact ⟨⟨by omega, h2⟩, by rw [List.getElem?_append_left (by omega), h3], by rw [List.getElem?_append_left (by omega), h4]⟩
   ·have hi2 := (List.getElem?_eq_some_iff.1 h).1
    rw [List.length_append, List.length_singleton] at hi2
    obtain rfl : i = (colsN T n).length := by omega
    rw [List.getElem?_append_right (Nat.le_refl _), Nat.sub_self] at h
    have : (n : Int) = (j : Int) := by simpa using h
    obtain rfl : n = j := by omega
    refine ⟨⟨by omega, hn⟩, ?_, ?_⟩
    ·rw [List.getElem?_append_left (by omega), start_last h0]
    ·rw [List.getElem?_append_right (by omega), hL, Nat.sub_self]; rfl
  ·rw [colsN_succ, if_neg hn, List.append_nil] at h
   rw [startN_succ, if_neg hn, List.append_nil]
   obtain ⟨⟨h1, h2⟩, h3⟩ := start_at h0 n i j h
   exact ⟨⟨by omega, h2⟩, h3⟩
theorem asc_ext : ∀ {a b : List Int}, a.Pairwise (· < ·) → b.Pairwise (· < ·) → (∀ x, x ∈ a ↔ x ∈ b) → a = b
 | [], [], _, _, _ => rfl
 | [], y :: b, _, _, h => by have := (h y).2 (by simp); simp at this
 | x :: a, [], _, _, h => by have := (h x).1 (by simp); simp at this
 | x :: a, y :: b, ha, hb, h => by
  rw [List.pairwise_cons] at ha hb
  have hx := (h x).1 (by simp)
  have hy := (h y).2 (by simp)
  have e : x = y := by
   rcases List.mem_cons.1 hx with e | h1
   ·exact e
   ·rcases List.mem_cons.1 hy with e | h2
    ·exact e.symm
    ·have := hb.1 _ h1
     have := ha.1 _ h2
     omega
  subst e
  refine congrArg _ (asc_ext ha.2 hb.2 fun z => ⟨fun hz => ?_, fun hz => ?_⟩)
  ·have h1 := ha.1 z hz
   rcases List.mem_cons.1 ((h z).1 (List.mem_cons_of_mem _ hz)) with e | h2
   ·omega
   ·exact h2
  ·have h1 := hb.1 z hz
   rcases List.mem_cons.1 ((h z).2 (List.mem_cons_of_mem _ hz)) with e | h2
   ·omega
   ·exact h2
end
structure IsC (c : Cx) (n k : Int) (T : List E3) : Prop where
 hn : 0 ≤ n ∧ n ≤ 4096
 hk : 0 ≤ k ∧ k ≤ 4096
 len : T.length ≤ 65536
 r : rises T
 p : ∀ x ∈ T, (0 ≤ x.1 ∧ x.1 < k) ∧ 0 ≤ x.2.1 ∧ x.2.1 < n
 v : ∀ x ∈ T, i64r x.2.2
 e1 : c.1 = n
 e2 : c.2.1 = k
 e3 : c.2.2.1.l = colsN T k.toNat
 e4 : c.2.2.2.1.l = startN T k.toNat
 e5 : c.2.2.2.2.1.l = T.map (·.2.1)
 e6 : c.2.2.2.2.2.l = T.map (·.2.2)
 o3 : okS 1 c.2.2.1
 o4 : okS 1 c.2.2.2.1
 o5 : okS 1 c.2.2.2.2.1
 o6 : okS 1 c.2.2.2.2.2
section
variable {c : Cx} {n k : Int} {T : List E3}
theorem IsC.h0 (h : IsC c n k T) : ∀ x ∈ T, 0 ≤ x.1 := fun x hx => (h.p x hx).1.1
theorem IsC.at_ge (h : IsC c n k T) {i : Nat} {j : Int} (hi : c.2.2.1.l[i]? = some j) : ∃ jn : Nat, j = (jn : Int) ∧ jn < k.toNat ∧ neC T jn = true ∧ c.2.2.2.1.l[i]? = some ((cntR T jn : Nat) : Int) ∧ c.2.2.2.1.l[i + 1]? = some ((cntR T (jn + 1) : Nat) : Int) := by
 rw [h.e3] at hi
 obtain ⟨jn, rfl, h1, h2⟩ := cols_mem.1 (List.mem_of_getElem? hi)
 obtain ⟨_, h3, h4⟩ := start_at h.h0 _ _ _ hi
 rw [← h.e4] at h3 h4
 exact ⟨jn, rfl, h1, h2, h3, h4⟩
theorem IsC.mem_iff (h : IsC c n k T) {j : Int} : j ∈ c.2.2.1.l ↔ rowI T j ≠ [] := by
 rw [h.e3, cols_mem]
 constructor
 ·rintro ⟨jn, rfl, _, h2⟩
  exact neC_iff.1 h2
 ·intro hne
  obtain ⟨x, hx⟩ := List.exists_mem_of_ne_nil _ hne
  obtain ⟨h1, h2⟩ := rowI_fst hx
  have := (h.p x h1).1
  rw [h2] at this
  refine ⟨j.toNat, by omega, by omega, ?_⟩
  rw [neC_iff, show ((j.toNat : Nat) : Int) = j by omega]
  exact hne
theorem IsC.atLen (h : IsC c n k T) : c.2.2.1.l.length ≤ 4096 := by
 rw [h.e3]
 have := cols_len (T := T) k.toNat
 have := h.hk
 omega
theorem IsC.stLen (h : IsC c n k T) : c.2.2.2.1.l.length = c.2.2.1.l.length + 1 := by rw [h.e4, h.e3, start_len]
theorem IsC.asc (h : IsC c n k T) : c.2.2.1.l.Pairwise (· < ·) := by rw [h.e3]; exact cols_asc _
theorem cntR_top (hp : ∀ x ∈ T, x.1 < k) {j : Nat} (hj : k ≤ (j : Int)) : cntR T j = T.length := by
 unfold cntR
 rw [List.countP_eq_length]
 intro x hx
 have := hp x hx
 simp
 omega
theorem IsC.last (h : IsC c n k T) : c.2.2.2.1.l[c.2.2.1.l.length]? = some (T.length : Int) := by
 rw [h.e4, h.e3, start_last h.h0, cntR_top (fun x hx => (h.p x hx).1.2) (by have := h.hk; omega)]
end
def colOk (r : Int) (st ro : List Int) (i : Nat) : Bool := decide (0 ≤ st.getD i 0) && (decide (st.getD i 0 < st.getD (i + 1) 0) && (decide (st.getD (i + 1) 0 ≤ ro.length) && ascI (-1) r (cutL ro (st.getD i 0) (st.getD (i + 1) 0))))
def rightC (c : Cx) : Bool := sizeF c.1 && (sizeF c.2.1 && (decide (c.2.2.2.1.l.length = c.2.2.1.l.length + 1) && (decide (c.2.2.2.1.l.getD 0 0 = 0) && (ascI (-1) c.2.1 c.2.2.1.l && (decide (c.2.2.2.2.1.l.length = c.2.2.2.2.2.l.length) && (decide (c.2.2.2.2.1.l.length ≤ 65536) && (decide (c.2.2.2.1.l.getD c.2.2.1.l.length 0 = c.2.2.2.2.1.l.length) && (List.range c.2.2.1.l.length).all (colOk c.1 c.2.2.2.1.l c.2.2.2.2.1.l))))))))
structure OkC (c : Cx) : Prop where
 a : okS 1 c.2.2.1
 s : okS 1 c.2.2.2.1
 r : okS 1 c.2.2.2.2.1
 v : okS 1 c.2.2.2.2.2
 va : ∀ y ∈ c.2.2.2.2.2.l, i64r y
 la : c.2.2.1.l.length ≤ 4096
 ls : c.2.2.2.1.l.length ≤ 9223372036854775806
 lr : c.2.2.2.2.1.l.length ≤ 9223372036854775806
 lv : c.2.2.2.2.2.l.length ≤ 9223372036854775806
def compM (c : Cx) : Mx := (c.2.2.1.l.length, c.1, c.2.2.2.1, c.2.2.2.2.1, c.2.2.2.2.2)
theorem asc_len : ∀ {l : List Int} {a n : Int}, a < n → ascI a n l = true → (l.length : Int) ≤ n - a - 1
 | [], a, n, h, _ => by simp; omega
 | x :: l, a, n, h, hl => by
  rw [ascI_cons, Bool.and_eq_true, Bool.and_eq_true, decide_eq_true_eq, decide_eq_true_eq] at hl
  have := asc_len hl.1.2 hl.2
  rw [List.length_cons]
  omega
section
variable {c : Cx}
theorem rightC_spec (h : rightC c = true) : (0 ≤ c.1 ∧ c.1 ≤ 4096) ∧ (0 ≤ c.2.1 ∧ c.2.1 ≤ 4096) ∧ c.2.2.2.1.l.length = c.2.2.1.l.length + 1 ∧ c.2.2.2.1.l.getD 0 0 = 0 ∧ ascI (-1) c.2.1 c.2.2.1.l = true ∧ c.2.2.2.2.1.l.length = c.2.2.2.2.2.l.length ∧ c.2.2.2.2.1.l.length ≤ 65536 ∧ c.2.2.2.1.l.getD c.2.2.1.l.length 0 = c.2.2.2.2.1.l.length ∧ ∀ i, i < c.2.2.1.l.length → colOk c.1 c.2.2.2.1.l c.2.2.2.2.1.l i = true := by
 unfold rightC at h
 simp only [Bool.and_eq_true, decide_eq_true_eq, sizeF_iff, all_range] at h
 exact h
theorem right_comp (h : rightC c = true) : rightM (compM c) = true := by
 obtain ⟨h1, h2, h3, h4, h5, h6, h7, h8, h9⟩ := rightC_spec h
 have h10 := asc_len (by omega) h5
 unfold rightM compM
 simp only [Bool.and_eq_true, decide_eq_true_eq, sizeF_iff, all_range, Int.toNat_natCast]
 refine ⟨by omega, h1, by omega, h4, h6, h7, h8, fun i hi => ?_⟩
 have := h9 i hi
 unfold colOk at this
 unfold rowOk
 simp only [Bool.and_eq_true, decide_eq_true_eq] at this ⊢
 exact ⟨this.1, by omega, this.2.2⟩
theorem OkC.ok (h : OkC c) : OkM (compM c) := ⟨h.s, h.r, h.v, h.va, Nat.le_succ_of_le h.ls, Nat.le_succ_of_le h.lr, Nat.le_succ_of_le h.lv⟩
def triC (c : Cx) : List E3 := (triN (compM c) c.2.2.1.l.length).map fun x => (c.2.2.1.l.getD x.1.toNat 0, x.2.1, x.2.2)
theorem rightC_is (ok : OkC c) (h : rightC c = true) : IsC c c.1 c.2.1 (triC c) := by
 obtain ⟨h1, h2, h3, h4, h5, h6, h7, h8, h9⟩ := rightC_spec h
 have hI := right_is ok.ok (right_comp h)
 rw [show (compM c).1 = (c.2.2.1.l.length : Int) from rfl, show (compM c).2.1 = c.1 from rfl, Int.toNat_natCast] at hI
 generalize hL : triN (compM c) c.2.2.1.l.length = L at hI
 have hT : triC c = L.map fun x => (c.2.2.1.l.getD x.1.toNat 0, x.2.1, x.2.2) := by unfold triC; rw [hL]
 obtain ⟨a1, a2⟩ := ascI_iff'.1 h5
 have mono : ∀ i j : Nat, i < j → j < c.2.2.1.l.length → c.2.2.1.l.getD i 0 < c.2.2.1.l.getD j 0 := fun i j hij hj => by
  rw [getD_lt (show i < c.2.2.1.l.length by omega), getD_lt hj]
  exact List.pairwise_iff_getElem.1 a1 i j (by omega) hj hij
 have bnd : ∀ i : Nat, i < c.2.2.1.l.length → 0 ≤ c.2.2.1.l.getD i 0 ∧ c.2.2.1.l.getD i 0 < c.2.1 := fun i hi => by
  rw [getD_lt hi]
  have := a2 _ (List.getElem_mem hi)
  omega
 have idx : ∀ x ∈ L, x.1.toNat < c.2.2.1.l.length ∧ ((x.1.toNat : Nat) : Int) = x.1 := fun x hx => by have := (hI.p x hx).1; omega
 have cnt : ∀ i : Nat, i < c.2.2.1.l.length → cntR (triC c) (c.2.2.1.l.getD i 0).toNat = cntR L i ∧ cntR (triC c) ((c.2.2.1.l.getD i 0).toNat + 1) = cntR L (i + 1) := fun i hi => by
  have hb := bnd i hi
  rw [hT]
  unfold cntR
  rw [List.countP_map, List.countP_map]
  constructor
  ·refine List.countP_congr fun x hx => ?_
   obtain ⟨b1, b2⟩ := idx x hx
   simp only [Function.comp, decide_eq_true_eq]
   rcases Nat.lt_trichotomy x.1.toNat i with q | q | q
   ·have := mono _ _ q hi; omega
   ·rw [q]; omega
   ·have := mono _ _ q b1; omega
  ·refine List.countP_congr fun x hx => ?_
   obtain ⟨b1, b2⟩ := idx x hx
   simp only [Function.comp, decide_eq_true_eq]
   rcases Nat.lt_trichotomy x.1.toNat i with q | q | q
   ·have := mono _ _ q hi; omega
   ·rw [q]; omega
   ·have := mono _ _ q b1; omega
 have st : ∀ i : Nat, i ≤ c.2.2.1.l.length → c.2.2.2.1.l[i]? = some ((cntR L i : Nat) : Int) := fun i hi => by
  rw [show c.2.2.2.1.l = _ from hI.e3, tabN_get _ (by omega)]
 have ec : colsN (triC c) c.2.1.toNat = c.2.2.1.l := by
  refine asc_ext (cols_asc _) a1 fun z => ?_
  rw [cols_mem]
  constructor
  ·rintro ⟨j, rfl, h11, h12⟩
   rw [neC_iff] at h12
   obtain ⟨x, hx⟩ := List.exists_mem_of_ne_nil _ h12
   obtain ⟨q1, q2⟩ := rowI_fst hx
   rw [hT] at q1
   obtain ⟨y, hy, rfl⟩ := List.mem_map.1 q1
   rw [← q2]
   show c.2.2.1.l.getD _ 0 ∈ _
   rw [getD_lt (idx y hy).1]
   exact List.getElem_mem _
  ·intro hz
   obtain ⟨i, hi, rfl⟩ := List.mem_iff_getElem.1 hz
   have hb := bnd i hi
   rw [getD_lt hi] at hb
   refine ⟨(c.2.2.1.l[i]).toNat, by omega, by omega, ?_⟩
   obtain ⟨q1, q2⟩ := cnt i hi
   rw [getD_lt hi] at q1 q2
   unfold neC
   rw [q1, q2, decide_eq_true_eq]
   have q3 := h9 i hi
   unfold colOk at q3
   simp only [Bool.and_eq_true, decide_eq_true_eq] at q3
   have q4 := q3.2.1
   rw [List.getD_eq_getElem?_getD, List.getD_eq_getElem?_getD, st i (by omega), st (i + 1) (by omega)] at q4
   simp only [Option.getD_some] at q4
   omega
 refine ⟨h1, h2, by rw [hT, List.length_map]; exact hI.len, ?_, fun x hx => ?_, fun x hx => ?_, rfl, rfl, ec.symm, ?_, ?_, ?_, ok.a, ok.s, ok.r, ok.v⟩
 ·rw [hT]
  show List.Pairwise _ _
  rw [List.pairwise_map]
  refine List.Pairwise.imp_of_mem (fun {a b} ha hb hab => ?_) hI.r
  obtain ⟨b1, b2⟩ := idx a ha
  obtain ⟨b3, b4⟩ := idx b hb
  rw [bel_iff] at hab ⊢
  rcases hab with q | ⟨q, q'⟩
  ·exact .inl (mono _ _ (by omega) b3)
  ·exact .inr ⟨by show c.2.2.1.l.getD _ 0 = c.2.2.1.l.getD _ 0; rw [q], q'⟩
 ·rw [hT] at hx
  obtain ⟨y, hy, rfl⟩ := List.mem_map.1 hx
  exact ⟨bnd _ (idx y hy).1, (hI.p y hy).2⟩
 ·rw [hT] at hx
  obtain ⟨y, hy, rfl⟩ := List.mem_map.1 hx
  exact hI.v y hy
 ·refine List.ext_getElem? fun i => ?_
  rcases Nat.lt_or_ge c.2.2.1.l.length i with hi | hi
  ·rw [List.getElem?_eq_none (by omega), List.getElem?_eq_none (by rw [start_len, ec]; omega)]
  ·rw [st i hi]
   rcases i with _ | i
   ·rw [cnt_zero fun x hx => (hI.p x hx).1.1]; rfl
   ·have hb := bnd i (by omega)
    have := (start_at (T := triC c) (fun x hx => by rw [hT] at hx; obtain ⟨y, hy, rfl⟩ := List.mem_map.1 hx; exact (bnd _ (idx y hy).1).1) c.2.1.toNat i (c.2.2.1.l.getD i 0).toNat (by rw [ec, List.getElem?_eq_getElem (show i < _ by omega), getD_lt (show i < c.2.2.1.l.length by omega)]; rw [getD_lt (show i < c.2.2.1.l.length by omega)] at hb; congr 1; omega)).2.2
    rw [this, (cnt i (by omega)).2]
 ·rw [hT, List.map_map]; exact hI.e4
 ·rw [hT, List.map_map]; exact hI.e5
end
end Ev
end Go.Proofs.Ytlkcneneagifoaa
end
section
namespace Go.Proofs.Ytlkcneneagifoaa
namespace Ev
open Go Sm
set_option linter.unusedVariables false
set_option linter.unusedSimpArgs false
section
variable {m : Mx} {n c : Int} {l : List E3}
end
end Ev
end Go.Proofs.Ytlkcneneagifoaa
end
