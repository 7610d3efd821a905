/- A region that draws its order: operations that read, or call what leaves old memory as it was; some of them lay new blocks, each whenever it comes up; behind them the others stand in one order. One walk of the text's order serves every order; the new blocks' numbers are any that differ. No program is named here. -/
import Derived.Test.YtekkgidoblddfaaDoorRRAlloc
namespace Go.Proofs.YtekkgidoblddfaaDoorRR
open Go Go.RowKit Go.Sort

section
variable {P : Program} {ops : Array Oper} {md : Region.Mode} {W : World}

def setAll (s : Array Bool) : List Nat → Array Bool
  | [] => s
  | k :: ks => (setAll s ks).setIfInBounds k true

theorem setAll_size (s : Array Bool) (ks : List Nat) : (setAll s ks).size = s.size := by
  induction ks with
  | nil => rfl
  | cons k ks ih => simp [setAll, ih]

theorem set_comm (s : Array Bool) (i k : Nat) : (s.setIfInBounds i true).setIfInBounds k true = (s.setIfInBounds k true).setIfInBounds i true := by
  by_cases h : i = k
  · rw [h]
  · exact Array.setIfInBounds_comm _ _ h
theorem set_set (s : Array Bool) (i : Nat) : (s.setIfInBounds i true).setIfInBounds i true = s.setIfInBounds i true := by
  apply Array.ext_getElem?
  intro j
  by_cases h : i = j
  · subst h; simp [Array.getElem?_setIfInBounds]
  · simp [h]

theorem setAll_set (s : Array Bool) (i : Nat) (ks : List Nat) : setAll (s.setIfInBounds i true) ks = (setAll s ks).setIfInBounds i true := by
  induction ks with
  | nil => rfl
  | cons k ks ih => simp only [setAll, ih]; rw [set_comm]

theorem setAll_in (s : Array Bool) (i : Nat) (ks : List Nat) (h : i ∈ ks) : (setAll s ks).setIfInBounds i true = setAll s ks := by
  induction ks with
  | nil => simp at h
  | cons k ks ih =>
    simp only [setAll]
    by_cases e : i = k
    · rw [e, set_set]
    · rw [set_comm, ih (by simpa [e] using h)]

theorem setAll_ready {s : Array Bool} {i : Nat} (ks : List Nat) (h : i ∈ Region.ready md ops s) (hi : i ∉ ks) : i ∈ Region.ready md ops (setAll s ks) := by
  induction ks with
  | nil => exact h
  | cons k ks ih =>
    simp only [List.mem_cons, not_or] at hi
    exact ready_mono (ih hi.2) hi.1

theorem set_done {s : Array Bool} {k : Nat} (h : s.getD k true = true) : s.setIfInBounds k true = s := by
  apply Array.ext_getElem?
  intro j
  by_cases e : k = j
  · subst e
    rw [Array.getElem?_setIfInBounds]
    simp only [if_true]
    split
    · rename_i hlt
      have h' : s[k] = true := by simpa [hlt] using h
      rw [Array.getElem?_eq_getElem hlt, h']
    · rename_i hlt
      rw [Array.getElem?_eq_none (by omega)]
  · simp [e]

theorem setAll_done {s : Array Bool} (ks : List Nat) (h : ∀ k ∈ ks, s.getD k true = true) : setAll s ks = s := by
  induction ks with
  | nil => rfl
  | cons k ks ih =>
    simp only [setAll]
    rw [ih (fun j hj => h j (by simp [hj])), set_done (h k (by simp))]

/-- How many of them are left. -/
def left (s : Array Bool) (ks : List Nat) : Nat := (ks.filter fun k => s.getD k true == false).length

theorem left_other {s : Array Bool} {i : Nat} (ks : List Nat) (h : i ∉ ks) : left (s.setIfInBounds i true) ks = left s ks := by
  unfold left
  congr 1
  apply List.filter_congr
  intro k hk
  rw [getD_set_ne (i := i) (j := k) true (by rintro rfl; exact h hk)]

theorem left_own {s : Array Bool} {i : Nat} (ks : List Nat) (hn : ks.Nodup) (h : i ∈ ks) (hu : s.getD i true = false) : left s ks = left (s.setIfInBounds i true) ks + 1 := by
  have hlt : i < s.size := by
    rcases Nat.lt_or_ge i s.size with h' | h'
    · exact h'
    · simp [Array.getElem?_eq_none h'] at hu
  induction ks with
  | nil => simp at h
  | cons k ks ih =>
    rw [List.nodup_cons] at hn
    by_cases e : i = k
    · subst e
      have h1 : left s (i :: ks) = left s ks + 1 := by unfold left; simp only [List.filter_cons, hu]; simp
      have h2 : left (s.setIfInBounds i true) (i :: ks) = left (s.setIfInBounds i true) ks := by
        have : (s.setIfInBounds i true).getD i true = true := by simp [hlt]
        unfold left
        simp only [List.filter_cons, this]; simp
      rw [h1, h2, left_other ks hn.1]
    · have hi : i ∈ ks := by simpa [e] using h
      have he := ih hn.2 hi
      have hk : (s.setIfInBounds i true).getD k true = s.getD k true := getD_set_ne true e
      have h1 : ∀ t : Array Bool, left t (k :: ks) = left t ks + (if t.getD k true == false then 1 else 0) := by
        intro t; unfold left; simp only [List.filter_cons]; split <;> simp
      rw [h1, h1, hk, he]; omega

theorem left_zero {s : Array Bool} (ks : List Nat) (h : left s ks = 0) : ∀ k ∈ ks, s.getD k true = true := by
  intro k hk
  unfold left at h
  have := List.length_eq_zero_iff.1 h
  rw [List.filter_eq_nil_iff] at this
  have := this k hk
  cases hh : s.getD k true with
  | true => rfl
  | false => rw [hh] at this; simp at this

theorem left_some {s : Array Bool} (ks : List Nat) {m : Nat} (h : left s ks = m + 1) : ∃ k ∈ ks, s.getD k true = false := by
  apply Classical.byContradiction
  intro hno
  have : left s ks = 0 := by
    unfold left
    rw [List.filter_eq_nil_iff.2]
    · rfl
    · intro k hk hh
      exact hno ⟨k, hk, by simpa using hh⟩
  omega

/-- The blocks that are laid, put where their operations put them. -/
def puts (dst : Nat → Option Tmp) (a : Act) (β : Nat → Option Nat) : List Nat → Act
  | [] => a
  | k :: ks => match β k with
    | none => puts dst a β ks
    | some b => (puts dst a β ks).put (dst k) (.pointer (some ⟨b, 0, none⟩))

def upd (β : Nat → Option Nat) (k b : Nat) : Nat → Option Nat := fun j => if j = k then some b else β j

theorem puts_other (dst : Nat → Option Tmp) (a : Act) (β : Nat → Option Nat) (k b : Nat) (ks : List Nat) (h : k ∉ ks) : puts dst a (upd β k b) ks = puts dst a β ks := by
  induction ks with
  | nil => rfl
  | cons j ks ih =>
    simp only [List.mem_cons, not_or] at h
    have : upd β k b j = β j := if_neg (fun e => h.1 e.symm)
    simp only [puts, this, ih h.2]

theorem puts_set (dst : Nat → Option Tmp) (a : Act) (β : Nat → Option Nat) (k b : Nat) (ks : List Nat) (hn : ks.Nodup) (h : k ∈ ks) (hβ : β k = none)
    (hd : ∀ i ∈ ks, ∀ j ∈ ks, i ≠ j → ∀ d, dst i = some d → dst j ≠ some d) : (puts dst a β ks).put (dst k) (.pointer (some ⟨b, 0, none⟩)) = puts dst a (upd β k b) ks := by
  induction ks with
  | nil => simp at h
  | cons j ks ih =>
    rw [List.nodup_cons] at hn
    by_cases e : k = j
    · subst e
      simp only [puts, hβ, show upd β k b k = some b from if_pos rfl]
      rw [puts_other _ _ _ _ _ _ hn.1]
    · have hk : k ∈ ks := by simpa [e] using h
      have he := ih hn.2 hk (fun x hx y hy => hd x (by simp [hx]) y (by simp [hy]))
      have : upd β k b j = β j := if_neg (fun e' => e e'.symm)
      simp only [puts, this]
      cases hj : β j with
      | none => exact he
      | some b' =>
        simp only
        rw [Act.put_comm _ _ _ (hd j (by simp) k h (fun e' => e e'.symm)), he]

/-- What is asked of the operations that lay blocks. -/
def Lays (P : Program) (ops : Array Oper) (n : Nat) (dst : Nat → Option Tmp) (X : Nat → Obj) (ks : List Nat) : Prop :=
  ∀ k ∈ ks, k < n ∧ ∃ o, ops[k]? = some o ∧ o.guard = none ∧ o.after = #[] ∧ o.dst = dst k ∧ apartB ops o n k = true ∧
    ∀ (a : Act) (w : World), (execOp a.eval o).run P w = .ok (.value (.pointer (some ⟨w.heap.size, 0, none⟩))) (w.alloc (X k))

theorem Lays.apart {n : Nat} {dst : Nat → Option Tmp} {X : Nat → Obj} {ks : List Nat} (h : Lays P ops n dst X ks) : ∀ i ∈ ks, ∀ j ∈ ks, i ≠ j → ∀ d, dst i = some d → dst j ≠ some d := by
  intro i hi j hj hij
  obtain ⟨_, oi, _, _, _, di, ai, _⟩ := h i hi
  obtain ⟨jn, oj, hoj, _, _, dj, _, _⟩ := h j hj
  have h0 := List.all_eq_true.1 ai j (List.mem_range.2 jn)
  simp only [hoj, Bool.or_eq_true, beq_iff_eq, Ne.symm hij, false_or] at h0
  rw [← di, ← dj]
  exact (Oper.apart_spec h0).2.1

theorem fOp_puts {i n : Nat} {dst : Nat → Option Tmp} {X : Nat → Obj} (hsel : Region.noSelect ops = true) (hin : i < n) (β : Nat → Option Nat) (ks : List Nat) (hL : Lays P ops n dst X ks) (hi : i ∉ ks) {a : Act} {K : Act → Prop}
    (hh : fOp P ops W i K a) : fOp P ops W i (fun a' => ∃ b, a' = puts dst b β ks ∧ K b) (puts dst a β ks) := by
  induction ks with
  | nil => exact fOp_mono (fun a' h => ⟨a', rfl, h⟩) hh
  | cons k ks ih =>
    simp only [List.mem_cons, not_or] at hi
    have h1 := ih (fun j hj => hL j (by simp [hj])) hi.2
    simp only [puts]
    cases hb : β k with
    | none => exact h1
    | some b =>
      simp only
      obtain ⟨_, o, _, _, _, hd, hap, _⟩ := hL k (by simp)
      rw [← hd]
      refine fOp_mono ?_ (fOp_at hap hin hi.1 hsel _ h1)
      rintro a' ⟨b', rfl, c, rfl, hc⟩
      exact ⟨c, by simp [hd], hc⟩

/-- The blocks that are laid, in a world that has grown. -/
def Held (W : World) (X : Nat → Obj) (β : Nat → Option Nat) (w : World) : Prop :=
  (∀ k b, β k = some b → W.heap.size ≤ b ∧ w.heap[b]? = some (X k)) ∧ ∀ k j b, β k = some b → β j = some b → k = j

theorem Held.grown {X : Nat → Obj} {β : Nat → Option Nat} {w w' : World} (h : Held W X β w) (hg : Gr w w') : Held W X β w' := by
  obtain ⟨p, rfl⟩ := hg
  refine ⟨fun k b hb => ⟨(h.1 k b hb).1, ?_⟩, h.2⟩
  have h1 := (h.1 k b hb).2
  have hlt : b < w.heap.size := by
    rcases Nat.lt_or_ge b w.heap.size with h' | h'
    · exact h'
    · rw [Array.getElem?_eq_none h'] at h1; cases h1
  simp only [grow, redrawn]
  rw [Array.getElem?_append_left hlt]; exact h1

theorem Held.more {X : Nat → Obj} {β : Nat → Option Nat} {w : World} {k : Nat} (h : Held W X β w) (hg : Gr W w) : Held W X (upd β k w.heap.size) (w.alloc (X k)) := by
  have hs : W.heap.size ≤ w.heap.size := hg.below.size
  have lt : ∀ j b, β j = some b → b < w.heap.size := by
    intro j b hb
    have h1 := (h.1 j b hb).2
    rcases Nat.lt_or_ge b w.heap.size with h' | h'
    · exact h'
    · rw [Array.getElem?_eq_none h'] at h1; cases h1
  refine ⟨fun j b hb => ?_, fun i j b hi hj => ?_⟩
  · unfold upd at hb
    by_cases e : j = k
    · rw [if_pos e] at hb
      obtain rfl := Option.some.inj hb
      refine ⟨hs, ?_⟩
      rw [e]
      show (w.heap.push (X k))[w.heap.size]? = some (X k)
      simp
    · rw [if_neg e] at hb
      refine ⟨(h.1 j b hb).1, ?_⟩
      have := lt j b hb
      show (w.heap.push (X k))[b]? = some (X j)
      rw [Array.getElem?_push_lt this, ← Array.getElem?_eq_getElem this]; exact (h.1 j b hb).2
  · unfold upd at hi hj
    by_cases ei : i = k <;> by_cases ej : j = k
    · rw [ei, ej]
    · rw [if_pos ei] at hi; rw [if_neg ej] at hj
      have := lt j b hj
      obtain rfl := Option.some.inj hi
      omega
    · rw [if_neg ei] at hi; rw [if_pos ej] at hj
      have := lt i b hi
      obtain rfl := Option.some.inj hj
      omega
    · rw [if_neg ei] at hi; rw [if_neg ej] at hj
      exact h.2 i j b hi hj

/-- Which are laid. -/
def Knows (s : Array Bool) (β : Nat → Option Nat) (ks : List Nat) : Prop := ∀ k ∈ ks, (β k = none ↔ s.getD k true = false)

theorem wpAny_many {n g : Nat} {dst : Nat → Option Tmp} {X : Nat → Obj} {ks : List Nat} {L : Array Bool → Act → Prop} {Q' : Exit → Act → World → Prop} (hsel : Region.noSelect ops = true)
    (hs : Region.sinkB md ops n = true) (hc : Region.chainB md ops n = true) (hn : n < ops.size) (hnd : ks.Nodup) (hl : Lays P ops n dst X ks) (hdone : ∀ s a, L s a → ∀ j ∈ Region.ready md ops s, n ≤ j)
    (hL : ∀ s a β w, Gr W w → Held W X β w → (∀ k ∈ ks, β k ≠ none) → L s a → wpAny P md ops Q' g s (puts dst a β ks) w) :
    ∀ (N f : Nat) (s : Array Bool) (a : Act) (β : Nat → Option Nat) (w : World), f + left s ks = N → HeadInv md ops n s → Knows s β ks → Gr W w → Held W X β w →
      HF P md ops W n L f (setAll s ks) a → wpAny P md ops Q' (N + g) s (puts dst a β ks) w := by
  intro N
  induction N with
  | zero =>
    intro f s a β w hN inv hk hg hh h
    have hf : f = 0 := by omega
    have h0 : left s ks = 0 := by omega
    subst hf
    have hd := left_zero ks h0
    rw [setAll_done ks hd] at h
    rw [Nat.zero_add]
    refine hL s a β w hg hh (fun k hkk e => ?_) h
    have := (hk k hkk).1 e
    rw [hd k hkk] at this; cases this
  | succ N ih =>
    intro f s a β w hN inv hk hg hh h
    rw [Nat.add_right_comm]
    have ready_k : ∀ k ∈ ks, s.getD k true = false → k ∈ Region.ready md ops s := by
      intro k hkk hu
      obtain ⟨_, o, ho, _, haft, _⟩ := hl k hkk
      exact mem_ready.2 ⟨hu, o, ho, by rw [haft]; simp⟩
    refine ⟨fun he => ?_, fun i hi => ?_⟩
    · exfalso
      by_cases h0 : left s ks = 0
      · have hd := left_zero ks h0
        rw [setAll_done ks hd] at h
        obtain ⟨f', rfl⟩ : ∃ f', f = f' + 1 := ⟨f - 1, by omega⟩
        obtain ⟨⟨i0, hi0⟩, _⟩ := h
        rw [he] at hi0; cases hi0
      · obtain ⟨k, hkk, hu⟩ := left_some (s := s) ks (m := left s ks - 1) (by omega)
        have := ready_k k hkk hu
        rw [he] at this; cases this
    · by_cases hik : i ∈ ks
      · have hu := (mem_ready.1 hi).1
        have hb : β i = none := (hk i hik).2 hu
        obtain ⟨hin, o, ho, hgd, haft, hd, _, hrun⟩ := hl i hik
        unfold wpOp
        rw [ho]
        have hwant : Region.wanted o (yielded ops (puts dst a β ks).tmps) = true := by unfold Region.wanted; rw [hgd]
        simp only [hwant, if_true]
        refine Or.inl ?_
        unfold Oper.wp
        rw [hrun]
        simp only [Oper.upon]
        rw [hd, puts_set dst a β i w.heap.size ks hnd hik hb hl.apart]
        have hle := left_own (s := s) ks hnd hik hu
        have hlt : i < s.size := by
          rcases Nat.lt_or_ge i s.size with h' | h'
          · exact h'
          · simp [Array.getElem?_eq_none h'] at hu
        refine ih f (s.setIfInBounds i true) a (upd β i w.heap.size) (w.alloc (X i)) (by omega) (inv.set hi hin) ?_ (hg.trans (Gr.of (bl1 w (X i)))) (hh.more hg) ?_
        · intro k hkk
          by_cases e : k = i
          · subst e
            have h1 : upd β k w.heap.size k = some w.heap.size := if_pos rfl
            rw [h1]
            simp [hlt]
          · have h1 : upd β i w.heap.size k = β k := if_neg e
            rw [h1, getD_set_ne true (Ne.symm e)]
            exact hk k hkk
        · rw [setAll_set, setAll_in s i ks hik]; exact h
      · have hr := setAll_ready ks hi hik
        cases f with
        | zero =>
          exfalso
          have h1 := hdone _ _ h i hr
          obtain ⟨k, hkk, hu⟩ := left_some (s := s) ks (m := N) (by omega)
          exact tail_waits hs hc hn inv _ k rfl (hl k hkk).1 hu i h1 hi
        | succ f =>
          obtain ⟨hin, hq⟩ := h.2 i hr
          refine wpOp_of_fOp hg (Gr.of (Below.refl _ _)) ?_ (fOp_puts hsel hin β ks hl hik hq)
          rintro a' w' hw' ⟨b, rfl, hb⟩
          refine ih f (s.setIfInBounds i true) b β w' (by rw [left_other ks hik]; omega) (inv.set hi hin) ?_ (hg.trans hw') (hh.grown hw') (by rw [setAll_set]; exact hb)
          intro k hkk
          rw [getD_set_ne (i := i) (j := k) true (by rintro rfl; exact hik hkk)]
          exact hk k hkk

theorem setAll_inv {n : Nat} {dst : Nat → Option Tmp} {X : Nat → Obj} (ks : List Nat) (hnd : ks.Nodup) (hl : Lays P ops n dst X ks) {s : Array Bool} (inv : HeadInv md ops n s) (h : ∀ k ∈ ks, s.getD k true = false) : HeadInv md ops n (setAll s ks) := by
  induction ks with
  | nil => exact inv
  | cons k ks ih =>
    rw [List.nodup_cons] at hnd
    have i1 := ih hnd.2 (fun j hj => hl j (by simp [hj])) (fun j hj => h j (by simp [hj]))
    obtain ⟨hkn, o, ho, _, haft, _⟩ := hl k (by simp)
    have hr : k ∈ Region.ready md ops s := mem_ready.2 ⟨h k (by simp), o, ho, by rw [haft]; simp⟩
    exact i1.set (setAll_ready ks hr hnd.1) hkn

def allocsB (md : Region.Mode) (ops : Array Oper) (m n : Nat) (ks : List Nat) : Bool :=
  Region.noSelect ops && decide (n < ops.size) && decide (m ≤ n) && Region.sinkB md ops n && Region.chainB md ops n && lexA md ops n (ops.size - n) m 0 (setAll (Array.replicate ops.size false) ks)

/-- The first m operations read, or call; those of ks, behind them, lay blocks. -/
theorem wp_region_allocs {id : Nat} {Q : Exit → Act → World → Prop} {a : Act} {w : World} {l : List Oper} (m n : Nat) (ks : List Nat) (dst : Nat → Option Tmp) (X : Nat → Obj) (hm : P.follows .mixedOrders = true) (hW : Gr W { w with drawn := w.drawn + 1 })
    (hnd : ks.Nodup) (hl : Lays P l.toArray n dst X ks) (hmn : m + ks.length = n) (hB : allocsB .any l.toArray m n ks = true)
    (h : wpFirm P l.toArray W (fun a' => ∀ β w', Gr W w' → Held W X β w' → (∀ k ∈ ks, β k ≠ none) → wpList P l.toArray Q (l.drop n) (puts dst a' β ks) w') (l.take m) a) :
    (Code.region id l.toArray true).wp P Q a w := by
  simp only [allocsB, Bool.and_eq_true, decide_eq_true_eq] at hB
  obtain ⟨⟨⟨⟨⟨hsel, hn⟩, _⟩, hs⟩, hc⟩, hlex⟩ := hB
  have hn' : n < l.length := by simpa using hn
  have htl : (l.take m).length = m := by simp; omega
  have hdl : (l.drop n).length = l.toArray.size - n := by simp
  have inv0 : HeadInv .any l.toArray n (Array.replicate l.toArray.size false) :=
    ⟨by simp, fun j oj _ hl => (by rw [getD_replicate_false] at hl; cases hl), fun t _ ht => getD_in (by simpa using ht) (getD_replicate_false _ _)⟩
  have hk0 : ∀ k ∈ ks, (Array.replicate l.toArray.size false).getD k true = false := fun k hk => getD_in (by have := (hl k hk).1; simp; omega) (getD_replicate_false _ _)
  have inv1 := setAll_inv ks hnd hl inv0 hk0
  have H := HF_lex (P := P) (W := W) (md := .any) (g := l.toArray.size - n) hsel hs hc hn (l.take m) 0 _ a (fun j hj => by
    have hj' : j < m := by rw [htl] at hj; exact hj
    simp [hj']) inv1 (by rw [htl]; exact hlex) h
  have hleft : left (Array.replicate l.toArray.size false) ks = ks.length := by
    unfold left
    rw [List.filter_eq_self.2]
    intro k hk; rw [hk0 k hk]; rfl
  have hputs : ∀ ks : List Nat, puts dst a (fun _ => none) ks = a := by
    intro ks
    induction ks with
    | nil => rfl
    | cons k ks ih => simpa [puts] using ih
  refine wp_region_any hm ?_
  have R := wpAny_many (Q' := Q) (g := l.toArray.size - n) (L := fun s' a' => Region.seqB .any l.toArray (l.toArray.size - n) n s' = true ∧ ∀ β w', Gr W w' → Held W X β w' → (∀ k ∈ ks, β k ≠ none) → wpList P l.toArray Q (l.drop n) (puts dst a' β ks) w') hsel hs hc hn hnd hl (fun s' a' hL => seqB_ready hL.1) (fun s a β w' h0 h1 h2 hL => by
    have := wpAny_of_seq (md := .any) (Q' := Q) (l.drop n) n s _ _ (fun j => by simp [List.getElem?_drop]) (by rw [hdl]; exact hL.1) (hL.2 β w' h0 h1 h2)
    rw [hdl] at this
    exact this) n m _ a (fun _ => none) _ (by rw [hleft]; exact hmn) inv0 (fun k hk => ⟨fun _ => hk0 k hk, fun _ => rfl⟩) hW ⟨fun k b hb => (by cases hb), fun k j b hb _ => (by cases hb)⟩ (by rw [htl] at H; exact H)
  rw [hputs, show n + (l.toArray.size - n) = l.toArray.size by omega] at R
  exact R
end
end Go.Proofs.YtekkgidoblddfaaDoorRR
