/- A law out of the evaluator. -/
import Derived.Test.YtlkcneneagifoaaZD14
import Derived.OpenShut
import Derived.WideShapes
import Derived.ChangeShapes
import Derived.Test.YtlkcneneagifoaaZD0
import Derived.Test.YtlkcneneagifoaaChecked
import Derived.Test.YtlkcneneagifoaaRows
import Derived.Test.YtlkcneneagifoaaZD12
import Derived.Test.YtlkcneneagifoaaZD13
set_option linter.unusedVariables false
set_option linter.unusedSimpArgs false
section
namespace Go.Proofs.Ytlkcneneagifoaa
namespace Ev
open Go Sm
set_option linter.unusedVariables false
set_option linter.unusedSimpArgs false
theorem and31 (x : Int) : 0 ≤ andI .i64 x 2147483647 ∧ andI .i64 x 2147483647 ≤ 2147483647 := by
 have h : (BitVec.ofInt 64 x &&& BitVec.ofInt 64 2147483647).toNat ≤ 2147483647 := by
  rw [BitVec.toNat_and]
  exact Nat.le_trans Nat.and_le_right (by decide)
 have e : andI .i64 x 2147483647 = IntKind.i64.wrap (((BitVec.ofInt 64 x &&& BitVec.ofInt 64 2147483647).toNat : Nat) : Int) := rfl
 rw [e, wrap64 (by omega) (by omega)]
 omega
theorem Within_w (x : Int) {n : Int} (h : 0 < n) : ∃ u, law21_Within x n = some u ∧ 0 ≤ u ∧ u < n := by
 rw [law21_Within_eq, if_neg (by omega)]
 by_cases hx : x < 0
 ·rw [if_pos hx]; exact ⟨0, rfl, by omega, h⟩
 ·rw [if_neg hx]
  unfold modO
  rw [if_pos (by omega), Int.tmod_eq_emod_of_nonneg (by omega)]
  exact ⟨_, rfl, Int.emod_nonneg _ (by omega), Int.emod_lt_of_pos _ h⟩
structure Gd (n : Int) (l : List E3) : Prop where
 n0 : 0 ≤ n ∧ n < 24
 len : l.length ≤ 60
 p : ∀ x ∈ l, (0 ≤ x.1 ∧ x.1 < n) ∧ (0 ≤ x.2.1 ∧ x.2.1 < n) ∧ 0 ≤ x.2.2 ∧ x.2.2 ≤ 2147483647
theorem graph21 {x : Gr} (hs : okS 3 x.2) : ∃ n l, law21_Graph x = some (n, mo 3 l) ∧ Gd n l := by
 obtain ⟨n, e, h1, h2⟩ := Within_w x.1 (n := 24) (by omega)
 rw [law21_Graph_eq, e]
 simp only [Option.bind_some]
 obtain ⟨q, q1, l, rfl, q2⟩ := loop_up (b := law21_Graph_b1 x) x.2.l.length (fun j a => ∃ l, a = ((j : Int), n, l) ∧ l.length ≤ j ∧ l.length ≤ 60 ∧ Gd n l) (fun q => ∃ l, q = .inl (n, l) ∧ Gd n l)
  (by
   rintro j _ hj ⟨l, rfl, g0, g1, g2⟩
   simp only [law21_Graph_b1]
   rw [if_pos (by omega)]
   by_cases c1 : (j : Int) < 60
   ·rw [if_pos c1]
    by_cases c2 : n > 0
    ·rw [if_pos c2]
     have ej := at_get hs hj
     generalize x.2.l[j] = y at ej
     obtain ⟨u, u1, u2, u3⟩ := Within_w y.1 c2
     obtain ⟨w, w1, w2, w3⟩ := Within_w y.2.1 c2
     have ha := and31 y.2.2
     rw [ej]
     simp only [Option.bind_some]
     rw [u1]
     simp only [Option.bind_some]
     rw [w1]
     simp only [Option.bind_some]
     rw [app_ok (by simp; unfold bound; omega)]
     simp only [Option.bind_some]
     rw [wrap64 (by omega) (by omega)]
     refine .inl ⟨_, rfl, _, rfl, by simp; omega, by simp; omega, g2.n0, by simp; omega, fun z hz => ?_⟩
     rcases List.mem_append.1 hz with hz | hz
     ·exact g2.p z hz
     ·simp only [List.mem_cons, List.not_mem_nil, or_false] at hz
      subst hz
      exact ⟨⟨u2, u3⟩, ⟨w2, w3⟩, ha⟩
    ·rw [if_neg c2]; exact .inr ⟨_, rfl, l, rfl, g2⟩
   ·rw [if_neg c1]; exact .inr ⟨_, rfl, l, rfl, g2⟩)
  (by
   rintro _ ⟨l, rfl, g0, g1, g2⟩
   exact ⟨_, if_neg (show ¬ ((x.2.l.length : Nat) : Int) < ((x.2.l.length : Nat) : Int) by omega), l, rfl, g2⟩) 0 (Nat.zero_le _) (0, n, []) ⟨[], rfl, by simp, by simp, ⟨h1, h2⟩, by simp, by simp⟩
 rw [q1]
 exact ⟨n, l, rfl, q2⟩
section
variable {n : Int} {l : List E3}
theorem Gd.wrong (h : Gd n l) {s : Sl E3} (e : s.l = l) : wrongG (n, s) = 0 := by
 have h1 : l.all (inM n n) = true := List.all_eq_true.2 fun x hx => by
  have := h.p x hx
  unfold inM
  rw [decide_eq_true_eq]
  omega
 have h2 : l.all wOk = true := List.all_eq_true.2 fun x hx => by
  have := h.p x hx
  unfold wOk
  rw [decide_eq_true_eq]
  omega
 have h3 := h.n0
 have h4 := h.len
 unfold wrongG
 simp only [e]
 rw [if_neg (by omega), if_neg (by omega), if_neg (by omega), if_pos h1, if_pos h2]
theorem Gd.w (h : Gd n l) : w64 l := fun x hx => by
 have := h.p x hx
 have := h.n0
 unfold i64r
 omega
theorem mo_nn {α : Type} {w : Nat} (l : List α) : (mo w l).nn = false → (mo w l).l = [] := by
 cases l with
 | nil => exact fun _ => rfl
 | cons a l => exact fun h => by simp [mo] at h
theorem fm_least {l : List E3} : ∀ {f : Ky → Option V} {k : Ky} {z : V}, l.foldl (Sm.upd (RG 1)) f k = some z → (∃ e ∈ l, key e = k ∧ z = ofW e.2.2) ∨ f k = some z := by
 induction l with
 | nil => exact fun h => .inr h
 | cons e l ih =>
  intro f k z h
  rcases ih (f := Sm.upd (RG 1) f e) h with ⟨e', h1, h2⟩ | h2
  ·exact .inl ⟨e', List.mem_cons_of_mem _ h1, h2⟩
  ·unfold Sm.upd at h2
   by_cases hk : k = key e
   ·rw [if_pos hk] at h2
    cases hf : f (key e) with
    | none =>
     rw [hf] at h2
     exact .inl ⟨e, by simp, hk.symm, (Option.some.inj h2).symm⟩
    | some s =>
     rw [hf] at h2
     have h3 : lessrW s (ofW e.2.2) = z := Option.some.inj h2
     unfold lessrW at h3
     split at h3
     ·exact .inl ⟨e, by simp, hk.symm, h3.symm⟩
     ·right; rw [hk, hf, h3]
   ·rw [if_neg hk] at h2
    exact .inr h2
theorem can_from {l : List E3} (hw : w64 l) {x : E3} (hx : x ∈ (sumR (RG 1) l).1) : x ∈ l := by
 unfold sumR at hx
 split at hx
 ·obtain ⟨p, hp, rfl⟩ := List.mem_map.1 hx
  have h := ((rep_can (RG 1) l).2 p.1 p.2).1 hp
  rcases fm_least h with ⟨e, h1, h2, h3⟩ | h1
  ·have hv := (hw e h1).2.2
   have : toE (RG 1) p = e := by
    unfold toE
    rw [← h2, h3]
    show (e.1, e.2.1, (narrowW (ofW e.2.2)).1) = e
    rw [narrow_of hv]
   rw [this]; exact h1
  ·simp at h1
 ·simp at hx
theorem Gd.can (h : Gd n l) : Gd n (sumR (RG 1) l).1 := ⟨h.n0, Nat.le_trans (sum_spec (r := 1) (l := l)).2.1 h.len, fun x hx => h.p x (can_from h.w hx)⟩
theorem Gd.flip (h : Gd n l) : Gd n (l.map flip3) := ⟨h.n0, by rw [List.length_map]; exact h.len, fun x hx => by
 have := h.p _ (mem_flip.1 hx)
 exact ⟨this.2.1, this.1, this.2.2⟩⟩
def sw (k : Ky) : Ky := (k.2, k.1)
theorem fm_flip {R : Rg} : ∀ {l : List E3} {f g : Ky → Option V}, (∀ k, f (sw k) = g k) → ∀ k, (l.map flip3).foldl (Sm.upd R) f (sw k) = l.foldl (Sm.upd R) g k
 | [], f, g, h, k => h k
 | e :: l, f, g, h, k => by
  rw [List.map_cons, List.foldl_cons, List.foldl_cons]
  refine fm_flip (fun k' => ?_) k
  unfold Sm.upd
  have hk : key (flip3 e) = sw (key e) := rfl
  rw [hk, h]
  by_cases he : k' = key e
  ·rw [if_pos he, if_pos (by rw [he])]; rfl
  ·rw [if_neg he, if_neg (fun h' => he (by have := congrArg sw h'; exact this)), h]
theorem sum_flip (l : List E3) : (sumR (RG 1) (l.map flip3)).1 = turnL (sumR (RG 1) l).1 := by
 have hf : ∀ k, fm (RG 1) (l.map flip3) (sw k) = fm (RG 1) l k := fm_flip fun k => rfl
 have hS := rep_can (RG 1) l
 have hS' := rep_can (RG 1) (l.map flip3)
 have hnd : (((canS (RG 1) l).map fun p => (sw p.1, p.2)).map (·.1)).Nodup := by
  rw [List.map_map]
  show List.Pairwise _ _
  rw [List.pairwise_map]
  exact hS.1.imp fun {a b} h => fun (e : sw a.1 = sw b.1) => klt_ne h (show a.1 = b.1 from congrArg sw e)
 have hp : ((canS (RG 1) l).map fun p => (sw p.1, p.2)).Perm (canS (RG 1) (l.map flip3)) := hS'.perm hnd (fun p hp => by
  obtain ⟨q, hq, rfl⟩ := List.mem_map.1 hp
  show fm (RG 1) (l.map flip3) (sw q.1) = some q.2
  rw [hf]
  exact (hS.2 q.1 q.2).1 hq) (fun k z h => by
  have h2 : fm (RG 1) l (sw k) = some z := by rw [← hf]; exact h
  exact List.mem_map.2 ⟨(sw k, z), (hS.2 _ _).2 h2, rfl⟩)
 have hall : (canS (RG 1) (l.map flip3)).all (fun p => ((RG 1).na p.2).2) = (canS (RG 1) l).all (fun p => ((RG 1).na p.2).2) := by
  rw [Bool.eq_iff_iff, List.all_eq_true, List.all_eq_true]
  constructor
  ·intro h p hp'
   exact h (sw p.1, p.2) (hp.mem_iff.1 (List.mem_map.2 ⟨p, hp', rfl⟩))
  ·intro h p hp'
   obtain ⟨q, hq, rfl⟩ := List.mem_map.1 (hp.mem_iff.2 hp')
   exact h q hq
 refine rises_ext (sum_spec (r := 1) (l := l.map flip3)).1 (turn_rises (sum_spec (r := 1) (l := l)).1) fun x => ?_
 rw [turn_mem]
 unfold sumR
 rw [hall]
 split
 ·simp only [List.mem_map]
  constructor
  ·rintro ⟨p, h1, rfl⟩
   obtain ⟨q, hq, rfl⟩ := List.mem_map.1 (hp.mem_iff.2 h1)
   exact ⟨q, hq, rfl⟩
  ·rintro ⟨q, hq, he⟩
   refine ⟨(sw q.1, q.2), hp.mem_iff.1 (List.mem_map.2 ⟨q, hq, rfl⟩), ?_⟩
   exact flip_inj he
 ·simp
theorem Canon_w (h : Gd n l) {s : Sl E3} (hs : okS 3 s) (hn : s.nn = false → s.l = []) (e : s.l = l) : ∃ s' : Sl E3, edges_Canon (n, s) = some (n, s') ∧ okS 3 s' ∧ (s'.nn = false → s'.l = []) ∧ s'.l = (sumR (RG 1) l).1 := by
 subst e
 obtain ⟨s', e1, e2, e3, e4⟩ := edges_Combine_w (r := 1) (by decide) hs hn (by have := h.len; omega) h.w
 rw [edges_Canon_eq]
 simp only
 rw [e1]
 exact ⟨s', rfl, e2, e3, e4⟩
theorem Turn_w (h : Gd n l) : ∃ s' : Sl E3, edges_Turn (n, mo 3 l) = some (n, s') ∧ okS 3 s' ∧ (s'.nn = false → s'.l = []) ∧ s'.l = turnL (sumR (RG 1) l).1 := by
 have hlen := h.len
 rw [edges_Turn_eq]
 simp only
 have q : loopO (edges_Turn_b1 (n, mo 3 l)) (0, n, []) = some (.inl (n, l.map flip3)) := by
  rw [show l.map flip3 = (l.take l.length).map flip3 by rw [List.take_length]]
  refine loop_stop l.length (fun i => ((i : Int), n, (l.take i).map flip3)) ?_ (fun i hi => ?_) ?_
  ·simp
  ·have a1 := at_mo (w := 3) (List.getElem?_eq_getElem hi)
   simp only [edges_Turn_b1, a1, Option.bind_some, mo_l, edges_all_eq, edges_turned_eq]
   rw [if_pos (by omega), if_pos trivial, app_ok (by simp; unfold bound; omega), w_succ hi (by omega), List.take_succ_eq_append_getElem hi, List.map_append]
   rfl
  ·simp only [edges_Turn_b1, mo_l]
   rw [if_neg (by omega)]
 rw [q]
 simp only [Option.bind_some, Sum.elim_inl]
 obtain ⟨s', e1, e2, e3, e4⟩ := Canon_w h.flip (s := mo 3 (l.map flip3)) (ok_mo _) (mo_nn _) (mo_l _ _)
 rw [e1]
 exact ⟨s', rfl, e2, e3, by rw [e4, sum_flip]⟩
theorem Outs_w (h : Gd n l) {s : Sl E3} (hs : okS 3 s) (e : s.l = l) : ∃ o : List Int, edges_Outs (n, s) = some ⟨true, 1, o⟩ ∧ o.length = n.toNat ∧ ∀ v : Nat, v < n.toNat → o[v]? = some ((rowI l (v : Int)).length : Int) := by
 subst e
 have h0 := h.n0
 have hlen := h.len
 rw [edges_Outs_eq]
 simp only
 rw [if_neg (by omega), if_neg (by omega), capOk_self]
 have hl : lenOk n = some () := by unfold lenOk bound; rw [if_pos ⟨by omega, by omega⟩]
 rw [hl]
 simp only [Option.bind_some]
 obtain ⟨q, q1, o, rfl, q2, q3⟩ := loop_up (b := edges_Outs_b1 (n, s)) s.l.length (fun j a => ∃ o : List Int, a = ((j : Int), o) ∧ o.length = n.toNat ∧ ∀ v : Nat, v < n.toNat → o[v]? = some ((rowI (s.l.take j) (v : Int)).length : Int)) (fun q => ∃ o : List Int, q = .inl o ∧ o.length = n.toNat ∧ ∀ v : Nat, v < n.toNat → o[v]? = some ((rowI s.l (v : Int)).length : Int))
  (by
   rintro j _ hj ⟨o, rfl, g1, g2⟩
   have a1 := atS_some' hs (List.getElem?_eq_getElem hj)
   have hb := (h.p _ (List.getElem_mem hj)).1
   obtain ⟨v, hv⟩ := Int.eq_ofNat_of_zero_le hb.1
   have hvn : v < n.toNat := by omega
   have a2 : atL o s.l[j].1 = some ((rowI (s.l.take j) (v : Int)).length : Int) := by rw [hv]; exact atL_some' (g2 v hvn)
   have hr := rowI_len (s.l.take j) (v : Int)
   rw [List.length_take] at hr
   simp only [edges_Outs_b1, a1, Option.bind_some, vertex_w, a2]
   rw [if_pos (by omega), decide_eq_true hb, if_pos rfl, w_succ hj (by omega), wrap64 (n := ((rowI (s.l.take j) (v : Int)).length : Int) + 1) (by omega) (by omega), hv]
   refine .inl ⟨_, rfl, _, rfl, by rw [List.length_set]; exact g1, fun u hu => ?_⟩
   rw [List.take_succ_eq_append_getElem hj, Int.toNat_natCast]
   have hrow : rowI (s.l.take j ++ [s.l[j]]) (u : Int) = rowI (s.l.take j) (u : Int) ++ if u = v then [s.l[j]] else [] := by
    unfold rowI
    rw [List.filter_append]
    congr 1
    by_cases huv : u = v
    ·rw [if_pos huv, List.filter_cons, if_pos (by rw [decide_eq_true_eq, hv, huv])]; rfl
    ·rw [if_neg huv, List.filter_cons, if_neg (by rw [decide_eq_true_eq, hv]; omega)]; rfl
   rw [hrow, List.getElem?_set]
   by_cases huv : u = v
   ·rw [if_pos huv.symm, if_pos (by omega), if_pos huv, huv]
    simp
   ·rw [if_neg (fun h => huv h.symm), if_neg huv, List.append_nil]
    exact g2 u hu)
  (by
   rintro _ ⟨o, rfl, g1, g2⟩
   refine ⟨_, if_neg (show ¬ ((s.l.length : Nat) : Int) < ((s.l.length : Nat) : Int) by omega), o, rfl, g1, ?_⟩
   rw [List.take_length] at g2
   exact g2) 0 (Nat.zero_le _) (0, List.replicate n.toNat 0) ⟨_, rfl, by simp, fun v hv => by rw [List.getElem?_replicate, if_pos hv]; rfl⟩
 rw [q1]
 exact ⟨o, rfl, q2, q3⟩
theorem turned_loop {q : Cx} {t : Mx} {n : Int} {C : List E3} {g : Gr} {z : Int} {o : Sl Int} (hn : n < 24) (hg : g.1 = n) (hq : IsC q n n C) (ht : Is t n n C) (ho : okS 1 o) (h : ∀ v : Nat, v < n.toNat → o.l[v]? = some ((rowI C (v : Int)).length : Int)) : loopO (top_TopTurned_b1 g (t, z) o q) 0 = some (.inl ()) := by
 have h0 := hq.hn
 have hlen := hq.len
 refine loop_stop n.toNat (fun i => (i : Int)) rfl (fun i hi => ?_) ?_
 ·have a1 := atS_some' ho (h i hi)
  have hr := rowI_len C (i : Int)
  simp only [top_TopTurned_b1]
  rw [hg, if_pos (by omega), dcsc_Column_is hq, Option.map_some, Option.bind_some, a1, Option.bind_some, if_neg (by simp only [List.length_map]; omega), Option.bind_some, csr_Row_is ht, Option.map_some, Option.bind_some, items_same2 (by rw [List.length_map]; omega), Option.map_some, Option.bind_some, if_neg (fun h => h rfl), w_succ hi (by omega)]
 ·simp only [top_TopTurned_b1]
  rw [hg, if_neg (by omega)]
end
theorem one_is : ∃ m, csr_Graph (1, ⟨true, 3, [(0, 0, 4)]⟩) = some (m, 0) ∧ csr_Count m = some 1 := by
 obtain ⟨m, h1, h2⟩ := csr_Graph_w (g := (1, ⟨true, 3, [(0, 0, 4)]⟩)) (.inr rfl) (by simp) (by intro x hx; simp only [List.mem_cons, List.not_mem_nil, or_false] at hx; subst hx; exact ⟨by unfold i64r; decide, by unfold i64r; decide, by unfold i64r; decide⟩) (by decide)
 refine ⟨m, h1, ?_⟩
 rw [csr_Count_is h2, turn_len]
 unfold canG
 rw [sum_rising (by simp) (by simp [i64r])]
 rfl
theorem top_TopTurned_true (x : Gr) (h0 : K.W (.C (.I .i64) (.S (.C (.I .i64) (.C (.I .i64) (.I .i64))))) x) : top_TopTurned x = some true := by
 obtain ⟨hs, hn, hw⟩ := w64_of h0.2
 obtain ⟨n, l, e1, hg⟩ := graph21 hs
 have hgn := hg.n0
 obtain ⟨m, m1, m2⟩ := csr_Graph_w (g := (n, mo 3 l)) (ok_mo _) (mo_nn _) (by rw [mo_l]; exact hg.w) (hg.wrong (mo_l _ _))
 have hC : canG (n, mo 3 l) = (sumR (RG 1) l).1 := by unfold canG; rw [mo_l]
 rw [hC] at m2
 have hCr := (sum_spec (r := 1) (l := l)).1
 have hCv : ∀ x ∈ (sumR (RG 1) l).1, i64r x.2.2 := fun x hx => (hg.can.w x hx).2.2
 obtain ⟨s, s1, s2, s3, s4⟩ := Turn_w hg
 have hgT : Gd n (turnL (sumR (RG 1) l).1) := ⟨hg.n0, by rw [turn_len]; exact hg.can.len, fun x hx => by
  have := hg.can.p _ (turn_mem.1 hx)
  exact ⟨this.2.1, this.1, this.2.2⟩⟩
 obtain ⟨t, t1, t2⟩ := csr_Graph_w (g := (n, s)) s2 s3 (by rw [s4]; exact hgT.w) (hgT.wrong s4)
 have hC' : canG (n, s) = turnL (sumR (RG 1) l).1 := by
  unfold canG
  rw [s4, sum_rising (turn_rises hCr) fun x hx => hCv (flip3 x) (turn_mem.1 hx)]
 rw [hC', turn_turn hCr] at t2
 obtain ⟨c, c1, c2, c3, c4⟩ := Canon_w hg (s := mo 3 l) (ok_mo _) (mo_nn _) (mo_l _ _)
 obtain ⟨o, o1, o2, o3⟩ := Outs_w hg.can c2 c4
 obtain ⟨q, q1, q2⟩ := Of_is m2
 rw [turn_turn hCr] at q2
 obtain ⟨u, u1, u2⟩ := csr_Turn_is m2
 rw [turn_turn hCr] at u2
 obtain ⟨w, w1, w2⟩ := one_is
 rw [top_TopTurned_eq, e1, Option.map_some, Option.bind_some, m1, Option.map_some, Option.bind_some, s1, Option.map_some, Option.bind_some, t1, Option.map_some, Option.bind_some, c1, Option.map_some, Option.bind_some, o1, Option.map_some, Option.bind_some, q1, Option.map_some, Option.bind_some, if_neg (fun h => h rfl), if_neg (fun h => h rfl), if_neg (by simp only [o2]; omega), u1, Option.map_some, Option.bind_some, csr_Same_is u2 t2, Option.map_some, Option.bind_some, if_neg (fun h => h rfl), turned_loop (by omega) rfl q2 t2 (.inr rfl) o3, Option.bind_some, Sum.elim_inl, w1, Option.map_some, Option.bind_some, w2, Option.map_some, Option.bind_some, if_pos rfl, dcsc_Count_is q2, Option.map_some, Option.bind_some, csr_Count_is m2, Option.map_some, Option.bind_some, turn_len]
 exact congrArg some (decide_eq_true rfl)
end Ev
end Go.Proofs.Ytlkcneneagifoaa
end
namespace Go.Proofs.Ytlkcneneagifoaa
open Go Go.ChangeShapes Go.WideShapes Go.ChangeAt Go.RowKit Go.Joins Ev
set_option maxRecDepth 100000
theorem Try.own : ownKnob Try.prog.godebug = none := by kernel_rfl
theorem Try.laidOut : laidOutB Try.prog = true := by kernel_rfl
namespace Ev
namespace K
theorem op3 : Op Try.prog 3 (.I .i64) := op_int (by kernel_rfl)
theorem op2 : Op Try.prog 2 (.I .i64) := op_int (by kernel_rfl)
theorem op55 : Op Try.prog 55 (.C (.I .i64) (.C (.I .i64) (.I .i64))) := op_struct (fs := flds Try.prog 54) (by kernel_rfl) (by kernel_rfl) (ops_cons op3 (ops_cons op3 (ops_one op2)))
theorem op48 : Op Try.prog 48 (.S (.C (.I .i64) (.C (.I .i64) (.I .i64)))) := op_slice (by kernel_rfl) (by kernel_rfl) op55
theorem op50 : Op Try.prog 50 (.C (.I .i64) (.S (.C (.I .i64) (.C (.I .i64) (.I .i64))))) := op_struct (fs := flds Try.prog 49) (by kernel_rfl) (by kernel_rfl) (ops_cons op3 (ops_one op48))
end K
end Ev
theorem topTurned_tds (tds : List TD) (h : TypDs Try.prog [50] tds) : ∃ m n kind, (callers K.E2 m n).1 13 tds = some (kind, [.one (.v (.bool true))]) := by
 obtain ⟨x0, q0, rfl, w0, h0⟩ := K.open_agg (d := .struct (flds Try.prog 49)) (by kernel_rfl) rfl K.op50 h
 obtain rfl := typd_nil h0
 exact K.true_of (en := K.top_TopTurned_E) K.top_TopTurned_ok (a := (x0)) rfl rfl (top_TopTurned_true x0 w0)
theorem topTurned_lifted (os : Os) (started : os.Started) (H : Type) (enc : TypeId × Value → H) :
  ReturnsInHanded {} Try.checked os 13 .any (Rows.topTurnedSpec.pre6 enc Try.prog Try.f13 Rows.topTurnedRow.domain false) (Rows.topTurnedSpec.post enc Try.prog Try.f13 false true false false) := by
 refine returnsInHanded_of_change (C := Try.checked) Try.own started (by kernel_rfl) Try.func13
  (ChangeSpec.witness6 (enc := enc) (C := Try.checked) false ⟨#[], #[.agg #[.int .i64 0, .slice none 0 0]], []⟩ 8 (by kernel_rfl) (by kernel_rfl) (by kernel_rfl) (by kernel_rfl)) ?_
 intro W0 base args ds gs before hval0 hW _ _
 have hval : ∀ (j : Nat) t v, Try.f13.params[j]? = some t → args[j]? = some v → Value.okWide Try.prog W0 .any base t v := hval0
 have hW' := hW
 obtain ⟨p, q, hA0, hV, rfl, _, _⟩ := hW
 have hA : DataW.TrodAll enc Try.prog W0 0 (fun _ => true) true Try.f13.params.toList args.toList ds p := hA0
 rw [Try.params13] at hA hval
 refine (law_call (E := K.E2) K.E2_ok trivial (d := 8) (k := 13) (base := base) (ts := [50]) (vs := args.toList) (fun t ht => ?_) hA (fun j t v h1 h2 => hval j t v (by simpa using h1) (by simpa using h2)) topTurned_tds).mono fun e W1 ⟨he, hb⟩ => ?_
 ·simp only [List.mem_cons, List.not_mem_nil, or_false] at ht
  rcases ht with rfl <;> kernel_rfl
 subst he
 exact ⟨_, rfl, law_post Try.laidOut (by rw [Try.params13]; intro t ht; simp only [List.mem_cons, List.not_mem_nil, or_false] at ht; rcases ht with rfl <;> exact ⟨by kernel_rfl, of_decide_eq_true (by kernel_rfl)⟩) rfl (by kernel_rfl) Try.underlying4
  (fun ds hl => by rw [Try.params13] at hl; match ds, hl with | [_d0], _ => rfl) hW' hb⟩
theorem topTurned_holds : Rows.TopTurnedSaid :=
 OpenClaim.holds_of_wide 13 Try.f13 rfl rfl rfl rfl rfl rfl rfl ⟨rfl, rfl, rfl, rfl, rfl⟩ rfl rfl rfl rfl rfl (by kernel_rfl) Try.func13 (by kernel_rfl)
  (of_decide_eq_true (by kernel_rfl)) (by unfold Func.isWrapper; first | (rw [if_pos (by decide +kernel)]; kernel_rfl) | (rw [if_neg (by decide +kernel)]; exact ⟨rfl, rfl⟩))
  (fun os started H enc _ => topTurned_lifted os started H enc)
end Go.Proofs.Ytlkcneneagifoaa
