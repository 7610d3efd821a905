/- What a call owns, when a block is made, turned, or appended to. No program is named here. -/
import Derived.Test.YtjomjfjbpcafhaaDoorEv3
namespace Go.Proofs.YtjomjfjbpcafhaaDoor
namespace Ev
open Go Go.RowKit
set_option linter.unusedVariables false
set_option linter.unusedSimpArgs false

theorem put_self (H : Heap) (k : Nat) (b : Blk) : (putBlk H k b)[k]? = some b := by
  unfold putBlk
  split
  · rename_i h; simp [h]
  · rename_i h
    rw [List.getElem?_append_right (by simp; omega)]
    simp
    rw [show k - (H.length + (k - H.length)) = 0 by omega]
    rfl
theorem put_keeps {H : Heap} {k j : Nat} {b B : Blk} (hj : j ≠ k) (h : H[j]? = some B) : (putBlk H k b)[j]? = some B := by
  have hl : j < H.length := (List.getElem?_eq_some_iff.1 h).1
  unfold putBlk
  split
  · rw [List.getElem?_set]; simp [show ¬ k = j by omega, h]
  · rw [List.getElem?_append_left (by simp; omega), List.getElem?_append_left hl, h]
theorem put_back {H : Heap} {k j : Nat} {b B : Blk} (hj : j ≠ k) (hB : B ≠ .no) (h : (putBlk H k b)[j]? = some B) : H[j]? = some B := by
  unfold putBlk at h
  split at h
  · rw [List.getElem?_set] at h; simpa [show ¬ k = j by omega] using h
  · rename_i hk
    by_cases h1 : j < H.length
    · rwa [List.getElem?_append_left (by simp; omega), List.getElem?_append_left h1] at h
    · by_cases h2 : j < k
      · rw [List.getElem?_append_left (by simp; omega), List.getElem?_append_right (by omega), List.getElem?_replicate] at h
        simp [show j - H.length < k - H.length by omega] at h
        exact absurd h.symm hB
      · rw [List.getElem?_append_right (by simp; omega)] at h
        have hlt := (List.getElem?_eq_some_iff.1 h).1
        simp at hlt
        omega

variable {w : World} {base : Nat} {F0 : Nat → Prop} {ρ : Nat → Nat} {H : Heap}

theorem HRel.lt (R : HRel w base F0 ρ H) : ∀ (k : Nat) sz es, H[k]? = some (.own sz es) → ρ k < w.heap.size := fun k sz es h => (R.lo k sz es h).2

theorem hrel_gen (R : HRel w base F0 ρ H) {w' : World} {ρ' : Nat → Nat} {H' : Heap} {A : Nat → Prop} (E : ExtA A w ρ H w' ρ' H')
    (hN : ∀ (k : Nat) sz es, H'[k]? = some (.own sz es) →
      (H[k]? = some (.own sz es) ∧ ρ' k = ρ k ∧ w'.heap[ρ k]? = w.heap[ρ k]?) ∨
      (base ≤ ρ' k ∧ ρ' k < w'.heap.size ∧ (∀ o, w'.frozen? ⟨ρ' k, o, none⟩ = false) ∧ es.length * sz ≤ bsize w' (ρ' k) ∧ (∀ (i : Nat) e, es[i]? = some e → e.length = sz) ∧
        ∀ (i j : Nat) e c, es[i]? = some e → e[j]? = some c → ∃ y, w'.cell? ⟨ρ' k, i * sz + j, none⟩ = some y ∧ RepC w base (Fb F0 ρ H) ρ H c y))
    (inj : ∀ (k k' : Nat) sz es sz' es', H'[k]? = some (.own sz es) → H'[k']? = some (.own sz' es') → ρ' k = ρ' k' → k = k') : HRel w' base F0 ρ' H' where
  lo := fun k sz es h => by
    rcases hN k sz es h with ⟨h1, h2, h3⟩ | ⟨h1, h2, _⟩
    · have := R.lo k sz es h1; have := E.size; omega
    · exact ⟨h1, h2⟩
  inj := inj
  fz := fun k sz es h => by
    rcases hN k sz es h with ⟨h1, h2, h3⟩ | ⟨_, _, h1, _⟩
    · intro o
      rw [h2, World.frozen?_of_block (w := w) h3]
      exact R.fz k sz es h1 o
    · exact h1
  laid := R.laid.keep (fun h1 h2 => E.same 0 h2 fun ⟨k, sz, es, g1, g2⟩ => by have := (R.lo k sz es g1).1; omega) E.size
  fit := fun k sz es h => by
    rcases hN k sz es h with ⟨h1, h2, h3⟩ | ⟨_, _, _, h1, _⟩
    · rw [h2, show bsize w' (ρ k) = bsize w (ρ k) by unfold bsize; rw [h3]]
      exact R.fit k sz es h1
    · exact h1
  wid := fun k sz es h => by
    rcases hN k sz es h with ⟨h1, h2, h3⟩ | ⟨_, _, _, _, h1, _⟩
    · exact R.wid k sz es h1
    · exact h1
  cell := fun k sz es h i j e c hi hj => by
    rcases hN k sz es h with ⟨h1, h2, h3⟩ | ⟨_, _, _, _, _, h1⟩
    · obtain ⟨y, g1, g2⟩ := R.cell k sz es h1 i j e c hi hj
      exact ⟨y, by rw [h2, World.cell?_of_block (w := w) h3]; exact g1, g2.ext R.lt E⟩
    · obtain ⟨y, g1, g2⟩ := h1 i j e c hi hj
      exact ⟨y, g1, g2.ext R.lt E⟩

/-- A new block. -/
theorem hrel_alloc (R : HRel w base F0 ρ H) (hb : base ≤ w.heap.size) {nid : Nat} (hn : ∀ B, H[nid]? = some B → B = .no) {w1 : World} (hh : w1.heap = w.heap) (ho : w1.os = w.os) (ht : w1.tape = w.tape) (hou : w1.output = w.output)
    {arr : Array Value} {ty : TypeId} {sz : Nat} {es : List (List C)} (hfit : es.length * sz ≤ arr.size) (hwid : ∀ (i : Nat) e, es[i]? = some e → e.length = sz)
    (hc : ∀ (i j : Nat) e c, es[i]? = some e → e[j]? = some c → ∃ y, arr[i * sz + j]? = some y ∧ RepC w base (Fb F0 ρ H) ρ H c y) :
    HRel (w1.alloc (.cells arr ty)) base F0 (fun k => if k = nid then w.heap.size else ρ k) (putBlk H nid (.own sz es)) ∧
      Ext w ρ H (w1.alloc (.cells arr ty)) (fun k => if k = nid then w.heap.size else ρ k) (putBlk H nid (.own sz es)) := by
  have hsz : (w1.alloc (.cells arr ty)).heap.size = w.heap.size + 1 := by simp [World.alloc, hh]
  have hold : ∀ b, b < w.heap.size → (w1.alloc (.cells arr ty)).heap[b]? = w.heap[b]? := fun b hlt => by
    show (w1.heap.push _)[b]? = _
    rw [Array.getElem?_push, hh, if_neg (by omega)]
  have hnew : (w1.alloc (.cells arr ty)).heap[w.heap.size]? = some (.cells arr ty) := by
    show (w1.heap.push _)[w.heap.size]? = _
    rw [Array.getElem?_push, hh, if_pos rfl]
  have E : Ext w ρ H (w1.alloc (.cells arr ty)) (fun k => if k = nid then w.heap.size else ρ k) (putBlk H nid (.own sz es)) := by
    refine ⟨ho, ht, hou, by omega, fun b hlt _ => hold b hlt, fun b hlt ⟨k, sz', es', h1, h2⟩ => ?_, fun b hlt => by unfold bsize; rw [hold b hlt], fun k B hB hno => ?_, fun k es' _ hB => ?_⟩
    · by_cases hk : k = nid
      · simp only [hk, if_true] at h2; omega
      · simp only [hk, if_false] at h2
        exact ⟨k, sz', es', put_back hk (by simp) h1, h2⟩
    · have hk : k ≠ nid := fun hk => hno (hn B (hk ▸ hB))
      exact ⟨B, put_keeps hk hB, hno, fun sz es' he => ⟨es', he, by simp [hk]⟩⟩
    · have hk : k ≠ nid := fun hk => by have := hn _ (hk ▸ hB); simp at this
      exact ⟨put_keeps hk hB, hold _ (R.lt k _ _ hB)⟩
  refine ⟨hrel_gen R E (fun k sz' es' h => ?_) fun k k' s1 e1 s2 e2 h1 h2 h3 => ?_, E⟩
  · by_cases hk : k = nid
    · subst hk
      rw [put_self] at h
      cases h
      refine .inr ⟨by simpa using hb, by simp [hsz], fun o => ?_, ?_, hwid, fun i j e c hi hj => ?_⟩
      · simp only [if_true]
        unfold World.frozen?
        simp only [hnew]
        simp
      · simp only [if_true]
        unfold bsize
        rw [hnew]
        exact hfit
      · obtain ⟨y, g1, g2⟩ := hc i j e c hi hj
        refine ⟨y, ?_, g2⟩
        simp only [if_true]
        unfold World.cell?
        simp only [hnew]
        simpa using g1
    · have h1 := put_back hk (by simp) h
      exact .inl ⟨h1, by simp [hk], hold _ (R.lt k _ _ h1)⟩
  · by_cases hk : k = nid <;> by_cases hk' : k' = nid
    · omega
    · have g2 := R.lt k' _ _ (put_back hk' (by simp) h2)
      simp [hk, hk'] at h3; omega
    · have g1 := R.lt k _ _ (put_back hk (by simp) h1)
      simp [hk, hk'] at h3; omega
    · simp only [hk, hk', if_false] at h3
      exact R.inj k k' _ _ _ _ (put_back hk (by simp) h1) (put_back hk' (by simp) h2) h3

/-- A block that is turned. -/
theorem hrel_turn (R : HRel w base F0 ρ H) {k sz : Nat} {es es' : List (List C)} (hk : H[k]? = some (.own sz es)) {w' : World} (hsz : w'.heap.size = w.heap.size) (ho : w'.os = w.os) (ht : w'.tape = w.tape) (hou : w'.output = w.output)
    (hsame : ∀ b, b ≠ ρ k → w'.heap[b]? = w.heap[b]?) (hbs : bsize w' (ρ k) = bsize w (ρ k)) (hf : ∀ o, w'.frozen? ⟨ρ k, o, none⟩ = false) (hlen : es'.length = es.length) (hz : sz = 0 → es' = es ∧ w'.heap[ρ k]? = w.heap[ρ k]?) (hwid : ∀ (i : Nat) e, es'[i]? = some e → e.length = sz)
    (hc : ∀ (i j : Nat) e c, es'[i]? = some e → e[j]? = some c → ∃ y, w'.cell? ⟨ρ k, i * sz + j, none⟩ = some y ∧ RepC w base (Fb F0 ρ H) ρ H c y) :
    HRel w' base F0 ρ (putBlk H k (.own sz es')) ∧ Ext w ρ H w' ρ (putBlk H k (.own sz es')) := by
  have E : Ext w ρ H w' ρ (putBlk H k (.own sz es')) := by
    refine ⟨ho, ht, hou, by omega, fun b hlt hn => hsame b fun e => hn ⟨k, sz, es, hk, e.symm⟩, fun b hlt ⟨j, sz', es1, h1, h2⟩ => ?_, fun b hlt => ?_, fun j B hB hno => ?_, fun j es1 _ hB => ?_⟩
    · by_cases hj : j = k
      · subst hj; exact ⟨_, sz, es, hk, h2⟩
      · exact ⟨j, sz', es1, put_back hj (by simp) h1, h2⟩
    · by_cases hb : b = ρ k
      · rw [hb]; exact hbs
      · unfold bsize; rw [hsame b hb]
    · by_cases hj : j = k
      · subst hj
        rw [hk] at hB
        cases hB
        exact ⟨_, put_self _ _ _, by simp, fun sz2 es2 he => by cases he; exact ⟨es, rfl, rfl⟩⟩
      · exact ⟨B, put_keeps hj hB, hno, fun sz2 es2 he => ⟨es2, he, rfl⟩⟩
    · by_cases hj : j = k
      · subst hj
        rw [hk] at hB
        cases hB
        obtain ⟨e1, e2⟩ := hz rfl
        exact ⟨by rw [put_self, e1], e2⟩
      · exact ⟨put_keeps hj hB, hsame _ fun e => hj (R.inj j k _ _ _ _ hB hk e)⟩
  refine ⟨hrel_gen R E (fun j sz' es1 h => ?_) fun j j' s1 e1 s2 e2 h1 h2 h3 => ?_, E⟩
  · by_cases hj : j = k
    · subst hj
      rw [put_self] at h
      cases h
      have := R.lo j sz es hk
      exact .inr ⟨this.1, by omega, hf, by rw [hlen, hbs]; exact R.fit j sz es hk, hwid, hc⟩
    · have h1 := put_back hj (by simp) h
      exact .inl ⟨h1, rfl, hsame _ fun e => hj (R.inj j k _ _ _ _ h1 hk e)⟩
  · have own : ∀ (j s1 : Nat) (e1 : List (List C)), (putBlk H k (.own sz es'))[j]? = some (Blk.own s1 e1) → ∃ s2 e2, H[j]? = some (Blk.own s2 e2) := fun j s1 e1 h => by
      by_cases hj : j = k
      · subst hj; exact ⟨_, _, hk⟩
      · exact ⟨_, _, put_back hj (by simp) h⟩
    obtain ⟨_, _, g1⟩ := own j _ _ h1
    obtain ⟨_, _, g2⟩ := own j' _ _ h2
    exact R.inj j j' _ _ _ _ g1 g2 h3

/-- A block that is appended to in its place: by another name. -/
theorem hrel_room (R : HRel w base F0 ρ H) {k nid sz : Nat} {es es' : List (List C)} (hk : H[k]? = some (.own sz es)) (hn : ∀ B, H[nid]? = some B → B = .no) {w' : World} (hsz : w'.heap.size = w.heap.size) (ho : w'.os = w.os) (ht : w'.tape = w.tape) (hou : w'.output = w.output)
    (hsame : ∀ b, b ≠ ρ k → w'.heap[b]? = w.heap[b]?) (hbs : bsize w' (ρ k) = bsize w (ρ k)) (hf : ∀ o, w'.frozen? ⟨ρ k, o, none⟩ = false) (hfit : es'.length * sz ≤ bsize w (ρ k)) (hz : sz ≠ 0) (hwid : ∀ (i : Nat) e, es'[i]? = some e → e.length = sz)
    (hc : ∀ (i j : Nat) e c, es'[i]? = some e → e[j]? = some c → ∃ y, w'.cell? ⟨ρ k, i * sz + j, none⟩ = some y ∧ RepC w base (Fb F0 ρ H) ρ H c y) :
    HRel w' base F0 (fun j => if j = nid then ρ k else ρ j) (putBlk (putBlk H k .dead) nid (.own sz es')) ∧ Ext w ρ H w' (fun j => if j = nid then ρ k else ρ j) (putBlk (putBlk H k .dead) nid (.own sz es')) := by
  have hkn : k ≠ nid := fun e => by have := hn _ (e ▸ hk); simp at this
  have hback : ∀ j B, j ≠ nid → j ≠ k → B ≠ .no → (putBlk (putBlk H k .dead) nid (.own sz es'))[j]? = some B → H[j]? = some B := fun j B h1 h2 hB h => put_back h2 hB (put_back h1 hB h)
  have hdead : (putBlk (putBlk H k .dead) nid (.own sz es'))[k]? = some .dead := put_keeps hkn (put_self _ _ _)
  have E : Ext w ρ H w' (fun j => if j = nid then ρ k else ρ j) (putBlk (putBlk H k .dead) nid (.own sz es')) := by
    refine ⟨ho, ht, hou, by omega, fun b hlt hnn => hsame b fun e => hnn ⟨k, sz, es, hk, e.symm⟩, fun b hlt ⟨j, sz', es1, h1, h2⟩ => ?_, fun b hlt => ?_, fun j B hB hno => ?_, fun j es1 _ hB => ?_⟩
    · by_cases hj : j = nid
      · simp only [hj, if_true] at h2; exact ⟨k, sz, es, hk, h2⟩
      · by_cases hjk : j = k
        · subst hjk; rw [hdead] at h1; cases h1
        · simp only [hj, if_false] at h2
          exact ⟨j, sz', es1, hback j _ hj hjk (by simp) h1, h2⟩
    · by_cases hb : b = ρ k
      · rw [hb]; exact hbs
      · unfold bsize; rw [hsame b hb]
    · have hj : j ≠ nid := fun e => hno (hn B (e ▸ hB))
      by_cases hjk : j = k
      · subst hjk
        exact ⟨_, hdead, by simp, fun sz2 es2 he => by cases he⟩
      · exact ⟨B, put_keeps hj (put_keeps hjk hB), hno, fun sz2 es2 he => ⟨es2, he, by simp [hj]⟩⟩
    · have hj : j ≠ nid := fun e => by have := hn _ (e ▸ hB); simp at this
      by_cases hjk : j = k
      · subst hjk; rw [hk] at hB; cases hB; exact absurd rfl hz
      · exact ⟨put_keeps hj (put_keeps hjk hB), hsame _ fun e => hjk (R.inj j k _ _ _ _ hB hk e)⟩
  refine ⟨hrel_gen R E (fun j sz' es1 h => ?_) fun j j' s1 e1 s2 e2 h1 h2 h3 => ?_, E⟩
  · by_cases hj : j = nid
    · subst hj
      rw [put_self] at h
      cases h
      have := R.lo k sz es hk
      simp only [if_true]
      exact .inr ⟨this.1, by omega, hf, by rw [hbs]; exact hfit, hwid, hc⟩
    · by_cases hjk : j = k
      · subst hjk; rw [hdead] at h; cases h
      · have h1 := hback j _ hj hjk (by simp) h
        exact .inl ⟨h1, by simp [hj], hsame _ fun e => hjk (R.inj j k _ _ _ _ h1 hk e)⟩
  · have key : ∀ j s1 e1, (putBlk (putBlk H k .dead) nid (.own sz es'))[j]? = some (.own s1 e1) → j = nid ∨ (j ≠ nid ∧ j ≠ k ∧ H[j]? = some (.own s1 e1)) := fun j s1 e1 h => by
      by_cases hj : j = nid
      · exact .inl hj
      · by_cases hjk : j = k
        · subst hjk; rw [hdead] at h; cases h
        · exact .inr ⟨hj, hjk, hback j _ hj hjk (by simp) h⟩
    rcases key j _ _ h1 with rfl | ⟨a1, a2, a3⟩ <;> rcases key j' _ _ h2 with rfl | ⟨b1, b2, b3⟩
    · rfl
    · simp only [if_true, b1, if_false] at h3
      exact absurd (R.inj k j' _ _ _ _ hk b3 h3).symm b2
    · simp only [if_true, a1, if_false] at h3
      exact absurd (R.inj j k _ _ _ _ a3 hk h3) a2
    · simp only [a1, b1, if_false] at h3
      exact R.inj j j' _ _ _ _ a3 b3 h3
end Ev
end Go.Proofs.YtjomjfjbpcafhaaDoor
