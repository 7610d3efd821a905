/- A region that draws its order: operations that read, or call what leaves old memory as it was; one of them lays a new block out of what others have yielded, as soon as these are done, whenever it comes up; behind them the others stand in one order. No program is named here. -/
import Derived.Laws.IdiomRangeMap
import Derived.RangeFuncBox
import Derived.Test.YtfaddlpemhifpaaAlloc
namespace Go.Proofs.Ytfaddlpemhifpaa
open Go Go.RowKit Go.Sort
set_option linter.unusedVariables false
set_option linter.unusedSimpArgs false

section
variable {P : Program} {ops : Array Oper} {md : Region.Mode} {W : World}

/-- What the operation lays, and what it yields, in a frame. -/
def Lays (P : Program) (ok : Oper) (a : Act) (V : Nat → Value) (X : Obj) : Prop := ∀ w : World, (execOp a.eval ok).run P w = .ok (.value (V w.heap.size)) (w.alloc X)
/-- Apart from the operation that lays the block, but for those that it waits for. -/
def apartD (ops : Array Oper) (ok : Oper) (n k : Nat) : Bool := (List.range n).all fun j => j == k || ok.after.any (fun e => e.on == j) || (match ops[j]? with | some oj => ok.apart ops oj && oj.after.all (fun e => e.on != k) | none => true)
def noDep (md : Region.Mode) (ops : Array Oper) (ok : Oper) (n k : Nat) : Bool := (List.range n).all (fun j => match ops[j]? with | some oj => oj.after.all (fun e => e.on != k) | none => true) && ok.after.all (fun e => decide (e.on < n) && e.on != k && Region.binds md e)
def cnt (n k : Nat) (s : Array Bool) : Nat := ((List.range n).filter fun j => j != k && !s.getD j true).length

theorem cnt_set {n k i : Nat} {s : Array Bool} (hi : i < n) (hik : i ≠ k) (hun : s.getD i true = false) : cnt n k (s.setIfInBounds i true) < cnt n k s := by
  refine filter_lt _ _ (fun x hx => ?_) i (by simp [hik, hun]) ?_ (List.range n) (List.mem_range.2 hi)
  · simp only [Bool.and_eq_true, bne_iff_ne, Bool.not_eq_true'] at hx ⊢
    refine ⟨hx.1, ?_⟩
    by_cases e : i = x
    · subst e; exact hun
    · rw [getD_set_ne true e] at hx; exact hx.2
  · have : (s.setIfInBounds i true).getD i true = true := by
      by_cases h : i < s.size
      · simp [h]
      · simp [h]
    rw [this]; simp
theorem cnt_zero {n k : Nat} {s : Array Bool} (h : cnt n k s = 0) {j : Nat} (hj : j < n) (hjk : j ≠ k) : s.getD j true = true := by
  have h2 := List.length_eq_zero_iff.1 h
  rw [List.filter_eq_nil_iff] at h2
  have := h2 j (List.mem_range.2 hj)
  simpa [hjk] using this

theorem fOp_mono' {i : Nat} {a : Act} {oi : Oper} {K K' : Act → Prop} (hi : ops[i]? = some oi) (h : ∀ v, K (a.put oi.dst v) → K' (a.put oi.dst v)) (hh : fOp P ops W i K a) : fOp P ops W i K' a := by
  obtain ⟨v, hy, hK⟩ := yields_of_fOp hi hh
  exact fOp_of_yields hi hy (h v hK)

/-- Those that are left of the head lie apart from the operation. -/
def LeftApart (ops : Array Oper) (ok : Oper) (n : Nat) (s : Array Bool) : Prop := ∀ j oj, j < n → s.getD j true = false → ops[j]? = some oj → ok.apart ops oj = true
theorem LeftApart.set {ok : Oper} {n i : Nat} {s : Array Bool} (h : LeftApart ops ok n s) : LeftApart ops ok n (s.setIfInBounds i true) := by
  intro j oj hj hun ho
  by_cases e : i = j
  · subst e
    have : (s.setIfInBounds i true).getD i true = true := by
      by_cases h : i < s.size
      · simp [h]
      · simp [h]
    rw [this] at hun; cases hun
  · rw [getD_set_ne true e] at hun
    exact h j oj hj hun ho

theorem lays_put {ok oj : Oper} {a : Act} {v : Value} {V : Nat → Value} {X : Obj} (hsel : ∀ cs b, ok.op ≠ .select cs b) (hap : ok.apart ops oj = true) : Lays P ok (a.put oj.dst v) V X ↔ Lays P ok a V X := by
  unfold Lays
  rw [execOp_put (ops := ops) ok hsel a oj.dst v (Oper.apart_spec hap).2.2]

/-- Ahead of those that are left the operation would lay what it lays behind them. -/
theorem lays_back {n : Nat} {ok : Oper} {L : Array Bool → Act → Prop} (hsel : ∀ cs b, ok.op ≠ .select cs b) (hL : ∀ s a, L s a → ∃ V X, Lays P ok a V X) :
    ∀ (f : Nat) (s : Array Bool) (a : Act), LeftApart ops ok n s → HF P md ops W n L f s a → ∃ V X, Lays P ok a V X
  | 0, s, a, _, h => hL s a h
  | f + 1, s, a, hla, h => by
    obtain ⟨⟨i, hi⟩, hall⟩ := h
    obtain ⟨hin, hq⟩ := hall i hi
    obtain ⟨hun, oi, hoi, _⟩ := mem_ready.1 hi
    obtain ⟨v, _, hK⟩ := yields_of_fOp hoi hq
    obtain ⟨V, X, hVX⟩ := lays_back hsel hL f _ _ hla.set hK
    exact ⟨V, X, (lays_put hsel (hla i oi hin hun hoi)).1 hVX⟩
theorem lays_carry {n : Nat} {ok : Oper} {L : Array Bool → Act → Prop} {V : Nat → Value} {X : Obj} (hsel : ∀ cs b, ok.op ≠ .select cs b) :
    ∀ (f : Nat) (s : Array Bool) (a : Act), LeftApart ops ok n s → Lays P ok a V X → HF P md ops W n L f s a → HF P md ops W n (fun s a => L s a ∧ Lays P ok a V X) f s a
  | 0, s, a, _, hE, h => ⟨h, hE⟩
  | f + 1, s, a, hla, hE, h => by
    refine ⟨h.1, fun i hi => ?_⟩
    obtain ⟨hin, hq⟩ := h.2 i hi
    obtain ⟨hun, oi, hoi, _⟩ := mem_ready.1 hi
    exact ⟨hin, fOp_mono' hoi (fun v hK => lays_carry hsel f _ _ hla.set ((lays_put hsel (hla i oi hin hun hoi)).2 hE) hK) hq⟩

theorem fOp_late {i n : Nat} {ok : Oper} {a : Act} {s : Array Bool} {K : Act → Prop} (hla : LeftApart ops ok n s) (hin : i < n) (hun : s.getD i true = false) (hsel : Region.noSelect ops = true) (u : Value) (hh : fOp P ops W i K a) :
    fOp P ops W i (fun a' => ∃ b, a' = b.put ok.dst u ∧ K b) (a.put ok.dst u) := by
  cases ho : ops[i]? with
  | none => unfold fOp at hh ⊢; rw [ho] at hh ⊢; exact ⟨a, rfl, hh⟩
  | some o =>
    obtain ⟨h1, h2, _⟩ := Oper.apart_spec (hla i o hin hun ho)
    obtain ⟨v, hy, hK⟩ := yields_of_fOp ho hh
    exact fOp_of_yields ho (hy.same (execOp_put o (Region.noSelect_spec hsel i o · · ho) a ok.dst u h1) (wanted_put o a ok.dst u h1)) ⟨_, Act.put_comm a u v h2, hK⟩

theorem wpAny_laid2 {n g : Nat} {ok : Oper} {L : Array Bool → Act → Prop} {Q' : Exit → Act → World → Prop} {m : World} {u : Value} (hsel : Region.noSelect ops = true) (hW : Gr W m)
    (hL : ∀ s a w, Gr m w → L s a → wpAny P md ops Q' g s (a.put ok.dst u) w) :
    ∀ (f : Nat) (s : Array Bool) (a : Act) (w : World), LeftApart ops ok n s → Gr m w → HF P md ops W n L f s a → wpAny P md ops Q' (f + g) s (a.put ok.dst u) w := by
  intro f
  induction f with
  | zero => intro s a w _ hw h; rw [Nat.zero_add]; exact hL s a w hw h
  | succ f ih =>
    intro s a w hla hw h
    obtain ⟨⟨i0, hi0⟩, hall⟩ := h
    rw [Nat.add_right_comm]
    refine ⟨fun h0 => ?_, fun i hi => ?_⟩
    · rw [h0] at hi0; cases hi0
    · refine wpOp_of_fOp hW hw ?_ (fOp_late hla (hall i hi).1 (mem_ready.1 hi).1 hsel u (hall i hi).2)
      rintro a' w' hw' ⟨b, rfl, hb⟩
      exact ih _ b w' hla.set hw' hb

theorem alloc_inj {w : World} {X Y : Obj} (h : w.alloc X = w.alloc Y) : X = Y := by
  have h1 := World.alloc_heap_new w X
  rw [h, World.alloc_heap_new w Y] at h1
  exact (Option.some.inj h1).symm

/-- Whatever order: f operations of the head are left beside the one that lays the block, which is not reckoned. -/
def HFX (P : Program) (md : Region.Mode) (ops : Array Oper) (W : World) (n k : Nat) (L : Array Bool → Act → Prop) : Nat → Array Bool → Act → Prop
  | 0, s, a => L (s.setIfInBounds k true) a
  | f + 1, s, a => (∃ i, i ∈ Region.ready md ops s ∧ i ≠ k) ∧ ∀ i ∈ Region.ready md ops s, i ≠ k → i < n ∧ fOp P ops W i (HFX P md ops W n k L f (s.setIfInBounds i true)) a

theorem HFX_first {n k i : Nat} {oi : Oper} {v : Value} {L : Array Bool → Act → Prop} (hi : ops[i]? = some oi) (hsel : Region.noSelect ops = true)
    (hs : Region.sinkB md ops n = true) (hc : Region.chainB md ops n = true) (hn : n < ops.size) (hkn : k < n) (hin : i < n) (hik : i ≠ k) (hdone : ∀ s a, L s a → ∀ j ∈ Region.ready md ops s, n ≤ j) (f : Nat) :
    ∀ (s : Array Bool) (a : Act), HeadInv md ops n s → s.getD k true = false →
      (∀ j oj, ops[j]? = some oj → j ≠ i → s.getD j true = false → (∀ e ∈ oj.after, Region.binds md e = true → e.on ≠ i) → oi.apart ops oj = true) →
      i ∈ Region.ready md ops s → YieldsF P ops W oi v a →
      HFX P md ops W n k L f (s.setIfInBounds i true) (a.put oi.dst v) → HFX P md ops W n k L (f + 1) s a := by
  have sel := Region.noSelect_spec hsel
  induction f with
  | zero =>
    intro s a inv hku _ hr hy H
    refine ⟨⟨i, hr, hik⟩, fun j hj hjk => ?_⟩
    have hjn : j < n := Nat.lt_of_not_le fun h => tail_waits hs hc hn inv _ k rfl hkn hku j h hj
    refine ⟨hjn, ?_⟩
    by_cases hji : j = i
    · rw [hji]; exact fOp_of_yields hi hy H
    · have := hdone _ _ H j (ready_mono (ready_mono hj hji) hjk)
      omega
  | succ f ih =>
    intro s a inv hku hfree hr hy H
    refine ⟨⟨i, hr, hik⟩, fun j hj hjk => ?_⟩
    have hun := (mem_ready.1 hr).1
    have hjn : j < n := Nat.lt_of_not_le fun h => tail_waits hs hc hn inv _ k rfl hkn hku j h hj
    refine ⟨hjn, ?_⟩
    by_cases hji : j = i
    · rw [hji]; exact fOp_of_yields hi hy H
    · obtain ⟨hjun, oj, hoj, hall⟩ := mem_ready.1 hj
      have hnot : ∀ e ∈ oj.after, Region.binds md e = true → e.on ≠ i := by
        intro e he hb heq
        have hd := hall e he hb
        rw [heq, getD_both hun] at hd
        cases hd
      have hp := fOp_put hoj (hfree j oj hoj hji hjun hnot) (fun cs b => sel i oi cs b hi) (fun cs b => sel j oj cs b hoj) hy (H.2 j (ready_mono hj hji) hjk).2
      refine fOp_mono (fun a' h3 => ih _ a' (inv.set hj hjn) (by rw [getD_set_ne true hjk]; exact hku) ?_ (ready_mono hr (Ne.symm hji)) h3.1 ?_) hp
      · intro k' ok hk hki hkun hno
        refine hfree k' ok hk hki ?_ hno
        by_cases hjk' : j = k'
        · rw [← hjk']; exact hjun
        · rwa [getD_set_ne true hjk'] at hkun
      · rw [Array.setIfInBounds_comm _ _ hji]
        exact h3.2

/-- The text's order of the head, but for the operation that lays the block, may be taken. -/
def lexX (md : Region.Mode) (ops : Array Oper) (n g k0 : Nat) : Nat → Nat → Array Bool → Bool
  | 0, _, s => Region.seqB md ops g n (s.setIfInBounds k0 true)
  | f + 1, k, s => (Region.ready md ops s).contains k && Region.free md ops s k && decide (k < n) && k != k0 && lexX md ops n g k0 f (k + 1) (s.setIfInBounds k true)

theorem HFX_lex {n k0 g : Nat} {Lq : Act → Prop} (hsel : Region.noSelect ops = true) (hs : Region.sinkB md ops n = true) (hc : Region.chainB md ops n = true) (hn : n < ops.size) (hk0 : k0 < n) (l : List Oper) :
    ∀ (k : Nat) (s : Array Bool) (a : Act), (∀ j, j < l.length → l[j]? = ops[k + j]?) → HeadInv md ops n s → s.getD k0 true = false → lexX md ops n g k0 l.length k s = true → wpFirm P ops W Lq l a →
    HFX P md ops W n k0 (fun s' a' => Region.seqB md ops g n s' = true ∧ Lq a') l.length s a := by
  induction l with
  | nil =>
    intro k s a _ _ _ hB h
    exact ⟨by simpa [lexX] using hB, h⟩
  | cons o l ih =>
    intro k s a hl inv hku hB h
    have h0 : ops[k]? = some o := by simpa using (hl 0 (by simp)).symm
    simp only [List.length_cons, lexX, Bool.and_eq_true, decide_eq_true_eq, bne_iff_ne] at hB
    have hr : k ∈ Region.ready md ops s := by simpa using hB.1.1.1.1
    have hq : fOp P ops W k (wpFirm P ops W Lq l) a := by unfold fOp; rw [h0]; exact h
    obtain ⟨v, hy, hK⟩ := yields_of_fOp h0 hq
    refine HFX_first h0 hsel hs hc hn hk0 hB.1.1.2 hB.1.2 (fun s' a' hL => seqB_ready hL.1) l.length s a inv hku (Region.free_spec h0 hB.1.1.1.2) hr hy (ih (k + 1) _ _ (fun j hj => ?_) (inv.set hr hB.1.1.2) (by rw [getD_set_ne true hB.1.2]; exact hku) hB.2 hK)
    have := hl (j + 1) (by simp; omega)
    simpa [Nat.add_assoc, Nat.add_comm 1 j] using this

theorem getD_set_self {s : Array Bool} {k : Nat} : (s.setIfInBounds k true).getD k true = true := by
  by_cases h : k < s.size
  · simp [h]
  · simp [h]
/-- Once those that it waits for are done. -/
theorem HFX_to {n k : Nat} {ok : Oper} {L : Array Bool → Act → Prop} (hnd : noDep md ops ok n k = true) (hs : Region.sinkB md ops n = true) (hc : Region.chainB md ops n = true) (hn : n < ops.size) (hkn : k < n) :
    ∀ (f : Nat) (s : Array Bool) (a : Act), HeadInv md ops n s → k ∈ Region.ready md ops s → HFX P md ops W n k L f s a → HF P md ops W n L f (s.setIfInBounds k true) a
  | 0, s, a, _, _, h => h
  | f + 1, s, a, inv, hkr, h => by
    obtain ⟨⟨i0, hi0, hik0⟩, hall⟩ := h
    have hi0n := (hall i0 hi0 hik0).1
    have inv' := inv.set hkr hkn
    refine ⟨⟨i0, ready_mono hi0 hik0⟩, fun i hi => ?_⟩
    have hin : i < n := Nat.lt_of_not_le fun h => tail_waits hs hc hn inv' _ i0 rfl hi0n (mem_ready.1 (ready_mono hi0 hik0)).1 i h hi
    obtain ⟨hun, oi, hoi, hdeps⟩ := mem_ready.1 hi
    have hik : i ≠ k := by
      rintro rfl
      rw [getD_set_self] at hun; cases hun
    have hir : i ∈ Region.ready md ops s := by
      refine mem_ready.2 ⟨by rw [getD_set_ne true (Ne.symm hik)] at hun; exact hun, oi, hoi, fun e he hb => ?_⟩
      have h2 := hdeps e he hb
      simp only [noDep, Bool.and_eq_true] at hnd
      have h3 := List.all_eq_true.1 hnd.1 i (List.mem_range.2 hin)
      rw [hoi] at h3
      have h4 := Array.all_eq_true'.1 h3 e he
      rw [bne_iff_ne] at h4
      rw [getD_set_ne false (Ne.symm h4)] at h2
      exact h2
    refine ⟨hin, fOp_mono (fun a' h' => ?_) (hall i hir hik).2⟩
    have := HFX_to hnd hs hc hn hkn f (s.setIfInBounds i true) a' (inv.set hir hin) (ready_mono hkr (Ne.symm hik)) h'
    rw [Array.setIfInBounds_comm _ _ (Ne.symm hik)]
    exact this

theorem wpAny_unlaid2 {n g k : Nat} {ok : Oper} {L : Array Bool → Act → (Nat → Value) → Obj → Prop} {Q' : Exit → Act → World → Prop} (hsel : Region.noSelect ops = true) (hap : apartD ops ok n k = true) (hnd : noDep md ops ok n k = true)
    (hs : Region.sinkB md ops n = true) (hc : Region.chainB md ops n = true) (hn : n < ops.size) (hkn : k < n) (hok : ops[k]? = some ok) (hg : ok.guard = none)
    (hdone : ∀ s a V X, L s a V X → ∀ j ∈ Region.ready md ops s, n ≤ j) (hlay : ∀ s a V X, L s a V X → Lays P ok a V X)
    (hL : ∀ s a w0 w V X, Gr W w0 → Gr (w0.alloc X) w → L s a V X → wpAny P md ops Q' g s (a.put ok.dst (V w0.heap.size)) w) :
    ∀ (f : Nat) (s : Array Bool) (a : Act) (w : World), HeadInv md ops n s → s.getD k true = false → cnt n k s ≤ f → Gr W w → HFX P md ops W n k (fun s a => ∃ V X, L s a V X) f s a → wpAny P md ops Q' (f + 1 + g) s a w := by
  have hoksel : ∀ cs b, ok.op ≠ .select cs b := fun cs b => Region.noSelect_spec hsel k ok cs b hok
  intro f
  have lay : ∀ (f : Nat) (s : Array Bool) (a : Act) (w : World), HeadInv md ops n s → k ∈ Region.ready md ops s → Gr W w → HFX P md ops W n k (fun s a => ∃ V X, L s a V X) f s a → wpOp P ops Q' k (wpAny P md ops Q' (f + g) (s.setIfInBounds k true)) a w := by
    intro f s a w inv hkr hw hX
    have h := HFX_to hnd hs hc hn hkn f s a inv hkr hX
    obtain ⟨hku, ok', hok', hall⟩ := mem_ready.1 hkr
    rw [hok] at hok'; cases hok'
    have hla : LeftApart ops ok n (s.setIfInBounds k true) := by
      intro j oj hj hun ho
      have hjk : k ≠ j := by
        rintro rfl
        have : (s.setIfInBounds k true).getD k true = true := by
          by_cases h : k < s.size
          · simp [h]
          · simp [h]
        rw [this] at hun; cases hun
      rw [getD_set_ne true hjk] at hun
      have h0 := List.all_eq_true.1 hap j (List.mem_range.2 hj)
      simp only [ho, Bool.or_eq_true, beq_iff_eq, Ne.symm hjk, false_or, Bool.and_eq_true] at h0
      rcases h0 with h0 | h0
      · exfalso
        obtain ⟨e, he, hej⟩ := Array.any_eq_true'.1 h0
        simp only [noDep, Bool.and_eq_true] at hnd
        have h1 := Array.all_eq_true'.1 hnd.2 e he
        simp only [Bool.and_eq_true] at h1
        have h2 := hall e he h1.2
        rw [beq_iff_eq] at hej
        rw [hej, getD_both hun] at h2; cases h2
      · exact h0.1
    obtain ⟨V, X, hE⟩ := lays_back hoksel (fun s a ⟨V, X, h⟩ => ⟨V, X, hlay s a V X h⟩) f _ a hla h
    have h' := lays_carry (V := V) (X := X) hoksel f _ a hla hE h
    unfold wpOp
    rw [hok]
    have hwant : Region.wanted ok (yielded ops a.tmps) = true := by unfold Region.wanted; rw [hg]
    simp only [hwant, if_true]
    refine Or.inl ?_
    unfold Oper.wp
    rw [hE]
    simp only [Oper.upon]
    refine wpAny_laid2 hsel (hw.trans (Gr.of (bl1 w X))) (fun s a w' hw' hh => ?_) f _ a _ hla (Gr.of (Below.refl _ _)) h'
    obtain ⟨⟨V', X', hL'⟩, hE'⟩ := hh
    have h1 := hlay s a V' X' hL' w
    rw [hE' w] at h1
    simp only [Result.ok.injEq, Next.value.injEq] at h1
    rw [h1.1]
    exact hL s a w w' V' X' hw (by rw [← alloc_inj h1.2]; exact hw') hL'
  induction f with
  | zero =>
    intro s a w inv hk hcn hw h
    have kr : k ∈ Region.ready md ops s := by
      refine mem_ready.2 ⟨hk, ok, hok, fun e he hb => ?_⟩
      simp only [noDep, Bool.and_eq_true] at hnd
      have h1 := Array.all_eq_true'.1 hnd.2 e he
      simp only [Bool.and_eq_true, decide_eq_true_eq, bne_iff_ne] at h1
      have h2 := cnt_zero (Nat.le_zero.1 hcn) h1.1.1 h1.1.2
      have hlt : e.on < s.size := by rw [inv.size]; omega
      simpa [hlt] using h2
    rw [Nat.add_right_comm]
    refine ⟨fun h0 => (by rw [h0] at kr; cases kr), fun i hi => ?_⟩
    by_cases hik : i = k
    · rw [hik]; exact lay 0 s a w inv kr hw h
    · obtain ⟨V, X, hVX⟩ := h
      have h1 := hdone _ _ _ _ hVX i (ready_mono hi hik)
      exact absurd hi (tail_waits hs hc hn inv _ k rfl hkn hk i h1)
  | succ f ih =>
    intro s a w inv hk hcn hw h
    rw [Nat.add_right_comm]
    refine ⟨fun h0 => ?_, fun i hi => ?_⟩
    · obtain ⟨i, hi, _⟩ := h.1
      rw [h0] at hi; cases hi
    · by_cases hik : i = k
      · rw [hik]; exact lay (f + 1) s a w inv (hik ▸ hi) hw h
      · obtain ⟨hin, hq⟩ := h.2 i hi hik
        refine wpOp_of_fOp (Gr.of (Below.refl _ _)) hw (fun a' w' hw' h' => ?_) hq
        have hcs := cnt_set hin hik (mem_ready.1 hi).1
        refine ih (s.setIfInBounds i true) a' w' (inv.set hi hin) (by rw [getD_set_ne true hik]; exact hk) (by omega) hw' h'

theorem HFX_weak {n k : Nat} {L L' : Array Bool → Act → Prop} (h : ∀ s a, L s a → L' s a) : ∀ (f : Nat) (s : Array Bool) (a : Act), HFX P md ops W n k L f s a → HFX P md ops W n k L' f s a
  | 0, s, a, hh => h _ a hh
  | f + 1, s, a, hh => ⟨hh.1, fun i hi hik => ⟨(hh.2 i hi hik).1, fOp_mono (fun a' h' => HFX_weak h f _ _ h') (hh.2 i hi hik).2⟩⟩
def layB (md : Region.Mode) (ops : Array Oper) (n : Nat) (ok : Oper) : Bool :=
  Region.noSelect ops && decide (n + 1 < ops.size) && Region.sinkB md ops (n + 1) && Region.chainB md ops (n + 1) && apartD ops ok (n + 1) n && noDep md ops ok (n + 1) n && lexX md ops (n + 1) (ops.size - (n + 1)) n n 0 (Array.replicate ops.size false)

theorem cnt_start (n m : Nat) : cnt (n + 1) n (Array.replicate m false) ≤ n := by
  unfold cnt
  rw [List.range_succ, List.filter_append, List.length_append]
  have h1 := List.length_filter_le (fun j => j != n && !(Array.replicate m false).getD j true) (List.range n)
  simp at h1 ⊢
  exact h1

/-- The n-th operation lays a block out of what others have yielded. -/
theorem wp_region_lay {id : Nat} {Q : Exit → Act → World → Prop} {a : Act} {w : World} {l : List Oper} {ok : Oper} (n : Nat) (hm : P.follows .mixedOrders = true) (hW : Gr W { w with drawn := w.drawn + 1 })
    (hok : l[n]? = some ok) (hg : ok.guard = none) (hB : layB .any l.toArray n ok = true)
    (h : wpFirm P l.toArray W (fun a' => ∃ V X, Lays P ok a' V X ∧ ∀ d1 os1 d2 os2, wpList P l.toArray Q (l.drop (n + 1)) (a'.put ok.dst (V (W.heap.size + (os1 : Array Obj).size))) (grow (redrawn ((grow (redrawn W d1) os1).alloc X) d2) os2)) (l.take n) a) :
    (Code.region id l.toArray true).wp P Q a w := by
  simp only [layB, Bool.and_eq_true, decide_eq_true_eq] at hB
  obtain ⟨⟨⟨⟨⟨⟨hsel, hn⟩, hs⟩, hc⟩, hap⟩, hnd⟩, hlex⟩ := hB
  have hn' : n + 1 < l.length := by simpa using hn
  have htl : (l.take n).length = n := by simp; omega
  have hdl : (l.drop (n + 1)).length = l.toArray.size - (n + 1) := by simp
  have hok' : l.toArray[n]? = some ok := by simpa using hok
  have inv0 : HeadInv .any l.toArray (n + 1) (Array.replicate l.toArray.size false) :=
    ⟨by simp, fun j oj _ hl => (by rw [getD_replicate_false] at hl; cases hl), fun t _ ht => getD_in (by simpa using ht) (getD_replicate_false _ _)⟩
  have hk0 : (Array.replicate l.toArray.size false).getD n true = false := getD_in (by simp; omega) (getD_replicate_false _ _)
  have H := HFX_lex (P := P) (W := W) (md := .any) (g := l.toArray.size - (n + 1)) hsel hs hc hn (by omega : n < n + 1) (l.take n) 0 _ a (fun j hj => by
    have hj' : j < n := by rw [htl] at hj; exact hj
    simp [hj']) inv0 hk0 (by rw [htl]; exact hlex) h
  refine wp_region_any hm ?_
  have R := wpAny_unlaid2 (Q' := Q) (W := W) (g := l.toArray.size - (n + 1)) (L := fun s' a' V X => Region.seqB .any l.toArray (l.toArray.size - (n + 1)) (n + 1) s' = true ∧ Lays P ok a' V X ∧ ∀ d1 os1 d2 os2, wpList P l.toArray Q (l.drop (n + 1)) (a'.put ok.dst (V (W.heap.size + (os1 : Array Obj).size))) (grow (redrawn ((grow (redrawn W d1) os1).alloc X) d2) os2))
    hsel hap hnd hs hc hn (by omega) hok' hg (fun s' a' V X hL => seqB_ready hL.1) (fun s' a' V X hL => hL.2.1) (fun s' a' w0 w' V X h0 h1 hL => by
      obtain ⟨⟨d1, os1⟩, rfl⟩ := h0
      obtain ⟨⟨d2, os2⟩, rfl⟩ := h1
      have := wpAny_of_seq (md := .any) (Q' := Q) (l.drop (n + 1)) (n + 1) s' _ _ (fun j => by simp [List.getElem?_drop]) (by rw [hdl]; exact hL.1) (hL.2.2 d1 os1 d2 os2)
      rw [hdl] at this
      simpa [grow, redrawn] using this) n _ a _ inv0 hk0 (by simpa using cnt_start n l.length) hW (by
      rw [htl] at H
      refine HFX_weak (fun s' a' ⟨h1, V, X, h2, h3⟩ => ⟨V, X, h1, h2, h3⟩) _ _ _ H)
  rw [show n + 1 + (l.toArray.size - (n + 1)) = l.toArray.size by omega] at R
  exact R
end
end Go.Proofs.Ytfaddlpemhifpaa
