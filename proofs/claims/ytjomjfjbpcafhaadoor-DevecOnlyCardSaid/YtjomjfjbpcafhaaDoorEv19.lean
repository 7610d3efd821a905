/- Blocks looked up; regions that draw, followed with one pass. No program is named here. -/
import Derived.Test.YtjomjfjbpcafhaaDoorEv18
namespace Go.Proofs.YtjomjfjbpcafhaaDoor
namespace Ev
open Go Go.RowKit
set_option linter.unusedVariables false
set_option linter.unusedSimpArgs false

theorem getBlk_put (h : Heap) (k j : Nat) (b : Blk) : getBlk (putBlk h k b) j = if j = k then (match b with | .own sz es => some (sz, es) | _ => none) else getBlk h j := by
  unfold putBlk
  by_cases hk : k < h.length
  · rw [if_pos hk]
    unfold getBlk
    rw [List.getElem?_set]
    by_cases hj : j = k
    · subst hj; rw [if_pos rfl, if_pos rfl, if_pos hk]; cases b <;> rfl
    · rw [if_neg (fun e => hj e.symm), if_neg hj]
  · rw [if_neg hk]
    unfold getBlk
    by_cases hj : j = k
    · subst hj
      rw [if_pos rfl, List.getElem?_append_right (by simp; omega)]
      simp only [List.length_append, List.length_replicate]
      rw [show j - (h.length + (j - h.length)) = 0 from by omega]
      cases b <;> rfl
    · rw [if_neg hj]
      by_cases h1 : j < h.length
      · rw [List.append_assoc, List.getElem?_append_left h1]
      · rw [List.getElem?_eq_none (show h.length ≤ j by omega)]
        by_cases h2 : j < k
        · rw [List.getElem?_append_left (by simp; omega), List.getElem?_append_right (by omega), List.getElem?_replicate]
          split
          · rename_i hx; split at hx <;> simp at hx
          · rfl
        · rw [List.getElem?_eq_none (by simp; omega)]
theorem getBlk_pad (h : Heap) (n j : Nat) : getBlk (h ++ List.replicate n .no) j = getBlk h j := by
  unfold getBlk
  by_cases h1 : j < h.length
  · rw [List.getElem?_append_left h1]
  · rw [List.getElem?_eq_none (show h.length ≤ j by omega), List.getElem?_append_right (by omega), List.getElem?_replicate]
    split
    · rename_i hx; split at hx <;> simp at hx
    · rfl
theorem getBlk_mask (h : Heap) (l : List Nat) (j : Nat) : getBlk (mask h l) j = if j ∈ l then none else getBlk h j := by
  unfold getBlk
  rw [mask_get]
  by_cases hj : j ∈ l
  · rw [if_pos hj]
    by_cases hl : j < h.length
    · rw [if_pos ⟨hj, hl⟩]
    · rw [if_neg (fun hh => hl hh.2), List.getElem?_eq_none (by omega)]
  · rw [if_neg hj, if_neg (fun hh => hj hh.1)]
theorem getBlk_nil (j : Nat) : getBlk [] j = none := rfl
theorem len_put (h : Heap) (k : Nat) (b : Blk) : (putBlk h k b).length = max h.length (k + 1) := by
  unfold putBlk
  split
  · rw [List.length_set]; omega
  · simp; omega
theorem len_put_lt {h : Heap} {k : Nat} (b : Blk) (hk : k < h.length) : (putBlk h k b).length = h.length := by rw [len_put]; omega
theorem len_put_at {h : Heap} {k : Nat} (b : Blk) (hk : k = h.length) : (putBlk h k b).length = h.length + 1 := by rw [len_put]; omega
theorem getBlk_lt {h : Heap} {k : Nat} {x : Nat × List (List C)} (hk : getBlk h k = some x) : k < h.length := by
  unfold getBlk at hk
  by_cases hl : k < h.length
  · exact hl
  · rw [List.getElem?_eq_none (by omega)] at hk; simp at hk
theorem ne_len {k b : Nat} (hk : k < b) : (k = b) = False := eq_false (by omega)
theorem ne_len' {k b : Nat} (hk : k < b) : (b = k) = False := eq_false (by omega)
theorem ne_lenA {k b : Nat} (hk : k < b) (i : Nat) : (k = b + i) = False := eq_false (by omega)
theorem ne_lenA' {k b : Nat} (hk : k < b) (i : Nat) : (b + i = k) = False := eq_false (by omega)
theorem add_ne (b : Nat) {i : Nat} (hi : i ≠ 0) : (b = b + i) = False := eq_false (by omega)
theorem add_ne' (b : Nat) {i : Nat} (hi : i ≠ 0) : (b + i = b) = False := eq_false (by omega)

abbrev bef (ops : Array Oper) : Nat → Nat := fun i => (Region.before ops).toList.getD i 0
/-- Which operations' order with an operation is open. -/
def openTo (ops : Array Oper) : List (List Nat) := (List.range ops.size).map fun i => (List.range ops.size).filter (unordered (bef ops) i)
/-- May they change places, as far as no blocks are told? -/
def drawOkP (ops : Array Oper) : Bool := drawOk ops 0 (bef ops) fun _ => []
def drawOkQ (ops : Array Oper) : Bool := drawOkP ops && (cutAt ops).isNone
theorem drawOkQ_p {ops : Array Oper} (h : drawOkQ ops = true) : drawOkP ops = true ∧ cutAt ops = none := by
  unfold drawOkQ at h
  simpa using h
/-- The blocks that an operation turns: old ones, its new one. -/
def turnsOf (b : Nat) (O : List (List Nat)) (N : List (Bool × List Nat)) (i : Nat) : List Nat := O.getD i [] ++ ((N.getD i (false, [])).2.map (b + ·) ++ if (N.getD i (false, [])).1 then [b + i] else [])
/-- Are new blocks turned behind the operation that makes them, and by one at a time? -/
def newOk (ops : Array Oper) (N : List (Bool × List Nat)) : Bool := (List.range ops.size).all fun i => (N.getD i (false, [])).2.all (fun j => (bef ops i).testBit j) && (List.range ops.size).all fun k => !unordered (bef ops) i k || disjoint (N.getD i (false, [])).2 (N.getD k (false, [])).2

theorem flatMap_same {α β : Type} {f g : α → List β} : ∀ {l : List α}, (∀ x ∈ l, f x = g x) → l.flatMap f = l.flatMap g
  | [], _ => rfl
  | x :: l, h => by rw [List.flatMap_cons, List.flatMap_cons, h x List.mem_cons_self, flatMap_same fun y hy => h y (List.mem_cons_of_mem _ hy)]
section
variable {E : Env} {cp : CallP} {ops : Array Oper} {b : Nat}
theorem evDraw1_of {U M : Nat → List Nat} : ∀ (l : List Oper) (i : Nat) (s s' : St), evDraw2 E cp ops b U M i l s = some s' → evDraw1 E cp ops b i l s = some ((List.range' i l.length).map U)
  | [], i, s, s', h => rfl
  | o :: l, i, s, s', h => by
    simp only [evDraw2, Option.bind_eq_bind, Option.bind_eq_some_iff] at h
    obtain ⟨e, h1, h2⟩ := h
    split at h2
    · rename_i hc
      simp only [Option.bind_eq_some_iff] at h2
      obtain ⟨s1, h3, h4⟩ := h2
      simp only [evDraw1, Option.bind_eq_bind, Option.bind_eq_some_iff]
      refine ⟨e, step_mono (mask_le _ _) h1, s1, h3, _, evDraw1_of l (i + 1) s1 s' h4, ?_⟩
      simp [List.range'_succ, hc.1]
    · simp at h2
theorem evDraw2_congr {U M U' M' : Nat → List Nat} : ∀ (l : List Oper) (i : Nat) (s : St), (∀ j, i ≤ j → j < i + l.length → U j = U' j ∧ M j = M' j) → evDraw2 E cp ops b U M i l s = evDraw2 E cp ops b U' M' i l s
  | [], i, s, h => rfl
  | o :: l, i, s, h => by
    have h0 := h i (Nat.le_refl _) (by simp)
    simp only [evDraw2, h0.1, h0.2, Option.bind_eq_bind]
    congr 1
    funext e
    split
    · congr 1
      funext s1
      exact evDraw2_congr l (i + 1) s1 fun j hj hl => h j (by omega) (by simp; omega)
    · rfl
/-- Do operations whose order is open turn other blocks? -/
def DJ : List (List Nat) → List (List Nat) → List (List Nat) → Prop
  | o :: os, r :: rs, O => (∀ j ∈ r, ∀ x ∈ o, x ∉ O.getD j []) ∧ DJ os rs O
  | _, _, _ => True
theorem dj_of : ∀ {os rs O : List (List Nat)}, DJ os rs O → ∀ i j, j ∈ rs.getD i [] → ∀ x ∈ os.getD i [], x ∉ O.getD j []
  | [], rs, O, h, i, j, hj, x, hx => by simp at hx
  | o :: os, [], O, h, i, j, hj, x, hx => by simp at hj
  | o :: os, r :: rs, O, h, 0, j, hj, x, hx => h.1 j (by simpa using hj) x (by simpa using hx)
  | o :: os, r :: rs, O, h, i + 1, j, hj, x, hx => dj_of h.2 i j (by simpa using hj) x (by simpa using hx)
theorem drawOk_of {O : List (List Nat)} {N : List (Bool × List Nat)} (hq : drawOkQ ops = true) (hn : newOk ops N = true) (hO : ∀ i j, i < ops.size → j < ops.size → unordered (bef ops) i j = true → ∀ x ∈ O.getD i [], x ∉ O.getD j []) (hb : ∀ l ∈ O, ∀ k ∈ l, k < b) {U : Nat → List Nat} (hU : ∀ i, i < ops.size → U i = turnsOf b O N i) : drawOk ops b (bef ops) U = true := by
  replace hq := (drawOkQ_p hq).1
  unfold drawOkP drawOk at hq
  unfold drawOk
  simp only [Bool.and_eq_true, List.all_eq_true] at hq ⊢
  refine ⟨hq.1, fun x hx y hy => ?_⟩
  have q := hq.2 x hx y hy
  have lt : ∀ z ∈ ops.toList.zipIdx, z.2 < ops.size := fun z hz => by
    have := List.mk_mem_zipIdx_iff_getElem?.1 (show (z.1, z.2) ∈ ops.toList.zipIdx from hz)
    have := (List.getElem?_eq_some_iff.1 this).1
    simpa using this
  have hold : ∀ i x, x ∈ O.getD i [] → x < b := fun i x hx => by
    rw [List.getD_eq_getElem?_getD] at hx
    cases hi : O[i]? with
    | none => rw [hi] at hx; simp at hx
    | some l => rw [hi] at hx; exact hb l (List.mem_of_getElem? hi) x (by simpa using hx)
  have hmem : ∀ i x, i < ops.size → x ∈ U i → x ∈ O.getD i [] ∨ (∃ j ∈ (N.getD i (false, [])).2, x = b + j) ∨ x = b + i := fun i x hi hx => by
    rw [hU i hi] at hx
    unfold turnsOf at hx
    rcases List.mem_append.1 hx with h | h
    · exact .inl h
    · rcases List.mem_append.1 h with h | h
      · obtain ⟨j, h1, h2⟩ := List.mem_map.1 h
        exact .inr (.inl ⟨j, h1, h2.symm⟩)
      · split at h
        · exact .inr (.inr (by simpa using h))
        · simp at h
  have hN1 : ∀ i j, i < ops.size → j ∈ (N.getD i (false, [])).2 → (bef ops i).testBit j = true := fun i j hi hj => by
    unfold newOk at hn
    have := List.all_eq_true.1 hn i (by simpa using hi)
    rw [Bool.and_eq_true] at this
    exact List.all_eq_true.1 this.1 j hj
  have hN2 : ∀ i k j, i < ops.size → k < ops.size → unordered (bef ops) i k = true → j ∈ (N.getD i (false, [])).2 → j ∉ (N.getD k (false, [])).2 := fun i k j hi hk hu hj => by
    unfold newOk at hn
    have := List.all_eq_true.1 hn i (by simpa using hi)
    rw [Bool.and_eq_true] at this
    have h2 := List.all_eq_true.1 this.2 k (by simpa using hk)
    rw [hu] at h2
    simp only [Bool.not_true, Bool.false_or] at h2
    unfold disjoint at h2
    have := List.all_eq_true.1 h2 j hj
    simpa using this
  refine ⟨⟨q.1.1, ?_⟩, ?_⟩
  · by_cases he : x.2 = y.2
    · simp [he]
    · simp only [Bool.or_eq_true, Bool.not_eq_true', List.contains_eq_mem, decide_eq_false_iff_not]
      by_cases ht : (bef ops x.2).testBit y.2 = true
      · exact .inl (.inr ht)
      refine .inr fun hh => ?_
      rcases hmem _ _ (lt x hx) hh with h | ⟨j, h1, h2⟩ | h
      · have := hold _ _ h; omega
      · have : j = y.2 := by omega
        subst this
        exact ht (hN1 _ _ (lt x hx) h1)
      · omega
  · by_cases hu : unordered (bef ops) x.2 y.2 = true
    · have hu' := hu
      unfold unordered at hu'
      simp only [Bool.and_eq_true, bne_iff_ne, ne_eq, Bool.not_eq_true'] at hu'
      obtain ⟨⟨hne, hu1⟩, hu2⟩ := hu'
      have q2 := q.2
      simp only [Bool.or_eq_true, Bool.not_eq_true', Bool.and_eq_true] at q2 ⊢
      refine .inr ⟨(q2.resolve_left (by rw [hu]; simp)).1, ?_⟩
      unfold disjoint
      rw [List.all_eq_true]
      intro z hz
      simp only [Bool.not_eq_true', List.contains_eq_mem, decide_eq_false_iff_not]
      intro hz2
      rcases hmem _ _ (lt x hx) hz with h | ⟨j, h1, h2⟩ | h
      · rcases hmem _ _ (lt y hy) hz2 with g | ⟨k, g1, g2⟩ | g
        · exact hO _ _ (lt x hx) (lt y hy) hu z h g
        · have := hold _ _ h; omega
        · have := hold _ _ h; omega
      · rcases hmem _ _ (lt y hy) hz2 with g | ⟨k, g1, g2⟩ | g
        · have := hold _ _ g; omega
        · have : j = k := by omega
          subst this
          exact hN2 _ _ _ (lt x hx) (lt y hy) hu h1 g1
        · have : j = y.2 := by omega
          subst this
          have := hN1 _ _ (lt x hx) h1
          rw [hu1] at this; simp at this
      · rcases hmem _ _ (lt y hy) hz2 with g | ⟨k, g1, g2⟩ | g
        · have := hold _ _ g; omega
        · have : k = x.2 := by omega
          subst this
          have := hN1 _ _ (lt y hy) g1
          rw [hu2] at this; simp at this
        · omega
    · have hu' : unordered (bef ops) x.2 y.2 = false := by simpa using hu
      rw [hu']; rfl
theorem evDraw_of {O : List (List Nat)} {N : List (Bool × List Nat)} {R : List (List Nat)} {s s' : St} (hq : drawOkQ ops = true) (hn : newOk ops N = true) (hR : openTo ops = R) (hO : DJ O R O) (hb : ∀ l ∈ O, ∀ k ∈ l, k < s.h.length)
    (h : evDraw2 E cp ops s.h.length (turnsOf s.h.length O N) (fun i => (R.getD i []).flatMap (turnsOf s.h.length O N)) 0 ops.toList { s with h := s.h ++ List.replicate ops.size .no } = some s') : evDraw E cp ops s = some s' := by
  have h1 := evDraw1_of _ _ _ _ h
  unfold evDraw
  simp only [Option.bind_eq_bind, Option.bind_eq_some_iff]
  refine ⟨_, h1, ?_⟩
  have hU : ∀ i, i < ops.size → ((List.range' 0 ops.toList.length).map (turnsOf s.h.length O N)).getD i [] = turnsOf s.h.length O N i := fun i hi => by
    rw [List.getD_eq_getElem?_getD, List.getElem?_map, List.getElem?_range' (by simpa using hi)]
    simp
  have hO' : ∀ i j, i < ops.size → j < ops.size → unordered (bef ops) i j = true → ∀ x ∈ O.getD i [], x ∉ O.getD j [] := fun i j hi hj hu => by
    refine dj_of hO i j ?_
    rw [← hR]
    unfold openTo
    rw [List.getD_eq_getElem?_getD, List.getElem?_map, List.getElem?_range hi]
    simp only [Option.map_some, Option.getD_some]
    rw [List.mem_filter]
    exact ⟨by simpa using hj, hu⟩
  rw [if_pos (drawOk_of hq hn hO' hb hU), ← h]
  refine evDraw2_congr _ _ _ fun j _ hj => ⟨hU j (by simpa using hj), ?_⟩
  have hj' : j < ops.size := by simpa using hj
  subst hR
  unfold openTo
  rw [List.getD_eq_getElem?_getD, List.getElem?_map, List.getElem?_range hj', List.getD_eq_getElem?_getD, List.getElem?_map, List.getElem?_range hj']
  simp only [Option.map_some, Option.getD_some]
  refine flatMap_same fun k hk => hU k ?_
  have := (List.mem_filter.1 hk).1
  simpa using this
end
section
variable {E : Env} {y : Nat → YldP} {n : Nat}
theorem wpc_drawW {id : Nat} {ops : Array Oper} {Q : Ex → St → Prop} {s : St} (O : List (List Nat)) (N : List (Bool × List Nat)) (R : List (List Nat)) (hq : drawOkQ ops = true) (hn : newOk ops N = true) (hR : openTo ops = R) (hO : DJ O R O) (hb : ∀ l ∈ O, ∀ k ∈ l, k < s.h.length)
    (h : holdsQ (Q .normal) (evDraw2 E (cpR E n) ops s.h.length (turnsOf s.h.length O N) (fun i => (R.getD i []).flatMap (turnsOf s.h.length O N)) 0 ops.toList { s with h := s.h ++ List.replicate ops.size .no })) : WpC E y n (.region id ops true) Q s := by
  refine wpc_draw (drawOkQ_p hq).2 ?_
  cases hs : evDraw2 E (cpR E n) ops s.h.length (turnsOf s.h.length O N) (fun i => (R.getD i []).flatMap (turnsOf s.h.length O N)) 0 ops.toList { s with h := s.h ++ List.replicate ops.size .no } with
  | none => rw [hs] at h; exact h.elim
  | some s' => rw [evDraw_of hq hn hR hO hb hs]; rw [hs] at h; exact h
/-- A pass over operations that turn no block. -/
def evQ (E : Env) (cp : CallP) (ops : Array Oper) (H : Heap) (b : Nat) : Nat → List Oper → List D → Option (List D)
  | _, [], t => some t
  | i, o :: r, t => do
    let e ← step E cp ops (b + i) o (only (looks ops o) t) H
    if e.upd.isEmpty then evQ E cp ops H b (i + 1) r (← setT t o.dst e.v) else none
theorem evQ_draw2 {cp : CallP} {ops : Array Oper} {H : Heap} {b : Nat} : ∀ (l : List Oper) (i : Nat) (t t' : List D), evQ E cp ops H b i l t = some t' → evDraw2 E cp ops b (fun _ => []) (fun _ => []) i l { t, h := H } = some { t := t', h := H }
  | [], i, t, t', h => by simp only [evQ, Option.some.injEq] at h; subst h; rfl
  | o :: l, i, t, t', h => by
    simp only [evQ, Option.bind_eq_bind, Option.bind_eq_some_iff] at h
    obtain ⟨e, h1, h2⟩ := h
    split at h2
    · rename_i hc
      have hu : e.upd = [] := by simpa using hc
      simp only [Option.bind_eq_some_iff] at h2
      obtain ⟨t1, h3, h4⟩ := h2
      simp only [evDraw2, Option.bind_eq_bind, Option.bind_eq_some_iff]
      refine ⟨e, h1, ?_⟩
      rw [if_pos (by simp [ids, hu])]
      simp only [Option.bind_eq_some_iff]
      exact ⟨{ t := t1, h := H }, by simp [put, h3, hu, Ev.apply], evQ_draw2 l (i + 1) t1 t' h4⟩
    · simp at h2
theorem wpc_quiet {id : Nat} {ops : Array Oper} {Q : Ex → St → Prop} {s : St} (hq : drawOkQ ops = true) (h : holdsQ (fun t => Q .normal { t, h := s.h ++ List.replicate ops.size .no }) (evQ E (cpR E n) ops (s.h ++ List.replicate ops.size .no) s.h.length 0 ops.toList s.t)) : WpC E y n (.region id ops true) Q s := by
  cases hs : evQ E (cpR E n) ops (s.h ++ List.replicate ops.size .no) s.h.length 0 ops.toList s.t with
  | none => rw [hs] at h; exact h.elim
  | some t' =>
    rw [hs] at h
    refine wpc_drawW [] [] (openTo ops) hq (by unfold newOk; simp [disjoint]) rfl trivial (by simp) ?_
    have e1 : (turnsOf s.h.length [] []) = fun _ => [] := by funext i; simp [turnsOf]
    have e2 : (fun i => ((openTo ops).getD i []).flatMap (turnsOf s.h.length [] [])) = fun _ => [] := by funext i; rw [e1]; simp
    rw [e2, e1]
    have := evQ_draw2 _ _ _ _ hs
    rw [this]
    exact h
end
end Ev
end Go.Proofs.YtjomjfjbpcafhaaDoor
