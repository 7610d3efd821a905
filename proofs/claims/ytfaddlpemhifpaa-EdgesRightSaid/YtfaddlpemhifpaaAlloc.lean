/- A region that draws its order: operations that read, or call what leaves old memory as it was; one of them lays a new block, whenever it comes up; behind them the others stand in one order. One walk of the text's order serves every order; the new block's number is what had grown by then. No program is named here. -/
import Derived.Test.YtfaddlpemhifpaaTail
namespace Go.Proofs.Ytfaddlpemhifpaa
open Go Go.RowKit Go.Sort

section
variable {P : Program} {ops : Array Oper} {md : Region.Mode} {W : World}

/-- What has grown out of a world. -/
def Gr (m w' : World) : Prop := ∃ p : Regrown, w' = grow (redrawn m p.d) p.os
theorem Gr.below {m w' : World} (h : Gr m w') : Below m.heap.size m w' := by obtain ⟨p, rfl⟩ := h; exact below_regrown _ _ _
theorem Gr.of {m w' : World} (h : Below m.heap.size m w') : Gr m w' := regrown_of_below h
theorem Gr.trans {a b c : World} (h : Gr a b) (k : Gr b c) : Gr a c := Gr.of (h.below.trans (k.below.mono h.below.size))

/-- What has grown, under a name that the walk does not open. -/
def Grew (w w' : World) : Prop := Below w.heap.size w w'
theorem Calls.firm {P : Program} {f : FuncId} {args : Array Value} {w : World} {v : Value} (h : Calls P f args w fun e w' => e = .returned v ∧ Below w.heap.size w w') : Calls P f args w fun e w' => e = .returned v ∧ Grew w w' := h

/-- One value in every world that has grown; what a call leaves behind has grown out of the world that it got. -/
def firmUpon (P : Program) (w : World) (v : Value) : Result Next → Prop
  | .ok (.value u) w' => w' = w ∧ u = v
  | .ok .skip w' => w' = w ∧ v = undef
  | .ok (.enter f args) w' => w' = w ∧ Calls P f args w (fun e w'' => e = .returned v ∧ Grew w w'')
  | _ => False
def firmAt (P : Program) (o : Oper) (a : Act) (w : World) (v : Value) : Prop := firmUpon P w v ((execOp a.eval o).run P w)
def firm (P : Program) (o : Oper) (a : Act) (W : World) (next : Act → Prop) : Prop := ∃ v, (∀ p : Regrown, firmAt P o a (grow (redrawn W p.d) p.os) v) ∧ next (a.put o.dst v)
def wpFirm (P : Program) (ops : Array Oper) (W : World) (Q : Act → Prop) : List Oper → Act → Prop
  | [], a => Q a
  | o :: rest, a => if Region.wanted o (yielded ops a.tmps) then firm P o a W (wpFirm P ops W Q rest) else wpFirm P ops W Q rest (a.put o.dst undef)
attribute [go_sem] firmUpon firmAt firm

theorem wpFirm_nil {Q : Act → Prop} {a : Act} (h : Q a) : wpFirm P ops W Q [] a := h
theorem wpFirm_step {Q : Act → Prop} {a : Act} {o : Oper} {rest : List Oper}
    (h : ∀ K : Act → Prop, (∀ a, wpFirm P ops W Q rest a → K a) → if Region.wanted o (yielded ops a.tmps) then firm P o a W K else K (a.put o.dst undef)) : wpFirm P ops W Q (o :: rest) a :=
  h _ (fun _ h => h)

def fOp (P : Program) (ops : Array Oper) (W : World) (i : Nat) (K : Act → Prop) (a : Act) : Prop :=
  match ops[i]? with
  | none => K a
  | some o => if Region.wanted o (yielded ops a.tmps) then firm P o a W K else K (a.put o.dst undef)

def YieldsF (P : Program) (ops : Array Oper) (W : World) (o : Oper) (v : Value) (a : Act) : Prop :=
  (Region.wanted o (yielded ops a.tmps) = true ∧ ∀ p : Regrown, firmAt P o a (grow (redrawn W p.d) p.os) v) ∨ (Region.wanted o (yielded ops a.tmps) = false ∧ v = undef)

theorem fOp_mono {i : Nat} {a : Act} {K K' : Act → Prop} (h : ∀ a, K a → K' a) (hh : fOp P ops W i K a) : fOp P ops W i K' a := by
  unfold fOp at *
  cases ho : ops[i]? with
  | none => rw [ho] at hh; exact h _ hh
  | some o =>
    rw [ho] at hh
    simp only at hh ⊢
    split at hh
    · rename_i hw; rw [if_pos hw]; obtain ⟨v, h1, h2⟩ := hh; exact ⟨v, h1, h _ h2⟩
    · rename_i hw; rw [if_neg hw]; exact h _ hh

theorem fOp_of_yields {i : Nat} {o : Oper} {v : Value} {a : Act} (hi : ops[i]? = some o) (hy : YieldsF P ops W o v a) {K : Act → Prop} (h : K (a.put o.dst v)) : fOp P ops W i K a := by
  unfold fOp
  rw [hi]
  rcases hy with ⟨hw, hv⟩ | ⟨hw, rfl⟩
  · simp only [hw, if_true]; exact ⟨v, hv, h⟩
  · simp only [hw, Bool.false_eq_true, if_false]; exact h

theorem yields_of_fOp {i : Nat} {o : Oper} {a : Act} {K : Act → Prop} (hi : ops[i]? = some o) (h : fOp P ops W i K a) : ∃ v, YieldsF P ops W o v a ∧ K (a.put o.dst v) := by
  unfold fOp at h
  rw [hi] at h
  simp only at h
  by_cases hw : Region.wanted o (yielded ops a.tmps) = true
  · rw [if_pos hw] at h; obtain ⟨v, h1, h2⟩ := h; exact ⟨v, .inl ⟨hw, h1⟩, h2⟩
  · rw [if_neg hw] at h; exact ⟨undef, .inr ⟨by simpa using hw, rfl⟩, h⟩

theorem YieldsF.same {o : Oper} {v : Value} {a a' : Act} (hy : YieldsF P ops W o v a) (he : execOp a'.eval o = execOp a.eval o)
    (hw : Region.wanted o (yielded ops a'.tmps) = Region.wanted o (yielded ops a.tmps)) : YieldsF P ops W o v a' := by
  unfold YieldsF firmAt at *
  rw [he, hw]; exact hy

/-- Two operations that lie apart. -/
theorem fOp_put {j : Nat} {oi oj : Oper} {v : Value} (hj : ops[j]? = some oj) (hap : oi.apart ops oj = true) (hsi : ∀ cs b, oi.op ≠ .select cs b) (hsj : ∀ cs b, oj.op ≠ .select cs b)
    {K : Act → Prop} {a : Act} (hy : YieldsF P ops W oi v a) (h : fOp P ops W j K (a.put oi.dst v)) : fOp P ops W j (fun a' => YieldsF P ops W oi v a' ∧ K (a'.put oi.dst v)) a := by
  obtain ⟨h1, h2, h3⟩ := Oper.apart_spec hap
  obtain ⟨u, hu, hK⟩ := yields_of_fOp hj h
  refine fOp_of_yields hj (hu.same (execOp_put oj hsj a oi.dst v h1).symm (wanted_put oj a oi.dst v h1).symm) ⟨hy.same (execOp_put oi hsi a oj.dst u h3) (wanted_put oi a oj.dst u h3), ?_⟩
  rw [← Act.put_comm a v u h2]; exact hK

/-- Whatever order: f operations of the head are left, none of which lays a block. -/
def HF (P : Program) (md : Region.Mode) (ops : Array Oper) (W : World) (n : Nat) (L : Array Bool → Act → Prop) : Nat → Array Bool → Act → Prop
  | 0, s, a => L s a
  | f + 1, s, a => (∃ i, i ∈ Region.ready md ops s) ∧ ∀ i ∈ Region.ready md ops s, i < n ∧ fOp P ops W i (HF P md ops W n L f (s.setIfInBounds i true)) a

theorem HF_first {n i : Nat} {oi : Oper} {v : Value} {L : Array Bool → Act → Prop} (hi : ops[i]? = some oi) (hsel : Region.noSelect ops = true)
    (hs : Region.sinkB md ops n = true) (hc : Region.chainB md ops n = true) (hn : n < ops.size) (hin : i < n) (hdone : ∀ s a, L s a → ∀ j ∈ Region.ready md ops s, n ≤ j) (f : Nat) :
    ∀ (s : Array Bool) (a : Act), HeadInv md ops n s →
      (∀ j oj, ops[j]? = some oj → j ≠ i → s.getD j true = false → (∀ e ∈ oj.after, Region.binds md e = true → e.on ≠ i) → oi.apart ops oj = true) →
      i ∈ Region.ready md ops s → YieldsF P ops W oi v a →
      HF P md ops W n L f (s.setIfInBounds i true) (a.put oi.dst v) → HF P md ops W n L (f + 1) s a := by
  have sel := Region.noSelect_spec hsel
  induction f with
  | zero =>
    intro s a inv _ hr hy H
    refine ⟨⟨i, hr⟩, fun j hj => ?_⟩
    have hjn : j < n := Nat.lt_of_not_le fun h => tail_waits hs hc hn inv _ i rfl hin (mem_ready.1 hr).1 j h hj
    refine ⟨hjn, ?_⟩
    by_cases hji : j = i
    · rw [hji]; exact fOp_of_yields hi hy H
    · have := hdone _ _ H j (ready_mono hj hji)
      omega
  | succ f ih =>
    intro s a inv hfree hr hy H
    refine ⟨⟨i, hr⟩, fun j hj => ?_⟩
    have hun := (mem_ready.1 hr).1
    have hjn : j < n := Nat.lt_of_not_le fun h => tail_waits hs hc hn inv _ i rfl hin hun j h hj
    refine ⟨hjn, ?_⟩
    by_cases hji : j = i
    · rw [hji]; exact fOp_of_yields hi hy H
    · obtain ⟨hjun, oj, hoj, hall⟩ := mem_ready.1 hj
      have hnot : ∀ e ∈ oj.after, Region.binds md e = true → e.on ≠ i := by
        intro e he hb heq
        have hd := hall e he hb
        rw [heq, getD_both hun] at hd
        cases hd
      have hp := fOp_put hoj (hfree j oj hoj hji hjun hnot) (fun cs b => sel i oi cs b hi) (fun cs b => sel j oj cs b hoj) hy (H.2 j (ready_mono hj hji)).2
      refine fOp_mono (fun a' h3 => ih _ a' (inv.set hj hjn) ?_ (ready_mono hr (Ne.symm hji)) h3.1 ?_) hp
      · intro k ok hk hki hkun hno
        refine hfree k ok hk hki ?_ hno
        by_cases hjk : j = k
        · rw [← hjk]; exact hjun
        · rwa [getD_set_ne true hjk] at hkun
      · rw [Array.setIfInBounds_comm _ _ hji]
        exact h3.2

/-- The text's order of the head, but for the operation that lays the block, may be taken. -/
def lexA (md : Region.Mode) (ops : Array Oper) (n g : Nat) : Nat → Nat → Array Bool → Bool
  | 0, _, s => Region.seqB md ops g n s
  | f + 1, k, s => (Region.ready md ops s).contains k && Region.free md ops s k && decide (k < n) && lexA md ops n g f (k + 1) (s.setIfInBounds k true)

theorem HF_lex {n g : Nat} {Lq : Act → Prop} (hsel : Region.noSelect ops = true) (hs : Region.sinkB md ops n = true) (hc : Region.chainB md ops n = true) (hn : n < ops.size) (l : List Oper) :
    ∀ (k : Nat) (s : Array Bool) (a : Act), (∀ j, j < l.length → l[j]? = ops[k + j]?) → HeadInv md ops n s → lexA md ops n g l.length k s = true → wpFirm P ops W Lq l a →
    HF P md ops W n (fun s' a' => Region.seqB md ops g n s' = true ∧ Lq a') l.length s a := by
  induction l with
  | nil =>
    intro k s a _ _ hB h
    exact ⟨by simpa [lexA] using hB, h⟩
  | cons o l ih =>
    intro k s a hl inv hB h
    have h0 : ops[k]? = some o := by simpa using (hl 0 (by simp)).symm
    simp only [List.length_cons, lexA, Bool.and_eq_true, decide_eq_true_eq] at hB
    have hr : k ∈ Region.ready md ops s := by simpa using hB.1.1.1
    have hq : fOp P ops W k (wpFirm P ops W Lq l) a := by unfold fOp; rw [h0]; exact h
    obtain ⟨v, hy, hK⟩ := yields_of_fOp h0 hq
    refine HF_first h0 hsel hs hc hn hB.1.2 (fun s' a' hL => seqB_ready hL.1) l.length s a inv (Region.free_spec h0 hB.1.1.2) hr hy (ih (k + 1) _ _ (fun j hj => ?_) (inv.set hr hB.1.2) hB.2 hK)
    have := hl (j + 1) (by simp; omega)
    simpa [Nat.add_assoc, Nat.add_comm 1 j] using this

/-- An operation of the head, in a world that has grown: in a frame that has the block's address already, too. -/
theorem wpOp_of_fOp {i : Nat} {a : Act} {K : Act → Prop} {K' : Act → World → Prop} {Q' : Exit → Act → World → Prop} {m w : World} (hW : Gr W m) (hC : Gr m w) (h : ∀ a w', Gr m w' → K a → K' a w') (hh : fOp P ops W i K a) :
    wpOp P ops Q' i K' a w := by
  unfold fOp at hh
  unfold wpOp
  cases ho : ops[i]? with
  | none => rw [ho] at hh; exact h _ _ hC hh
  | some o =>
    rw [ho] at hh
    simp only at hh ⊢
    by_cases hw : Region.wanted o (yielded ops a.tmps) = true
    · rw [if_pos hw] at hh ⊢
      refine Or.inl ?_
      obtain ⟨v, h1, h2⟩ := hh
      obtain ⟨p, hp⟩ := hW.trans hC
      have h3 := h1 p
      rw [← hp] at h3
      unfold firmAt at h3
      unfold Oper.wp
      generalize (execOp a.eval o).run P w = r at *
      cases r with
      | ok nx w' =>
        cases nx <;> simp only [firmUpon] at h3 <;> simp only [Oper.upon]
        case value u =>
          obtain ⟨e1, e2⟩ := h3
          rw [e1, e2]; exact h _ _ hC h2
        case skip =>
          obtain ⟨e1, e2⟩ := h3
          rw [e1, ← e2]; exact h _ _ hC h2
        case enter f args =>
          obtain ⟨e1, hc⟩ := h3
          rw [e1]
          exact hc.mono fun e w'' ⟨he, hb⟩ => by subst he; exact h _ _ (hC.trans (Gr.of hb)) h2
      | halt x w' => simp only [firmUpon] at h3
    · rw [if_neg hw] at hh ⊢; exact h _ _ hC hh

/-- Apart from the operation that lays the block: its address makes no difference. -/
def apartB (ops : Array Oper) (ok : Oper) (n k : Nat) : Bool := (List.range n).all fun j => j == k || (match ops[j]? with | some oj => ok.apart ops oj | none => true)

theorem fOp_at {i n k : Nat} {ok : Oper} {a : Act} {K : Act → Prop} (hap : apartB ops ok n k = true) (hin : i < n) (hik : i ≠ k) (hsel : Region.noSelect ops = true) (u : Value) (hh : fOp P ops W i K a) :
    fOp P ops W i (fun a' => ∃ b, a' = b.put ok.dst u ∧ K b) (a.put ok.dst u) := by
  cases ho : ops[i]? with
  | none => unfold fOp at hh ⊢; rw [ho] at hh ⊢; exact ⟨a, rfl, hh⟩
  | some o =>
    have h0 := List.all_eq_true.1 hap i (List.mem_range.2 hin)
    simp only [ho, Bool.or_eq_true, beq_iff_eq, hik, false_or] at h0
    obtain ⟨h1, h2, _⟩ := Oper.apart_spec h0
    obtain ⟨v, hy, hK⟩ := yields_of_fOp ho hh
    exact fOp_of_yields ho (hy.same (execOp_put o (Region.noSelect_spec hsel i o · · ho) a ok.dst u h1) (wanted_put o a ok.dst u h1)) ⟨_, Act.put_comm a u v h2, hK⟩

theorem wpAny_laid {n g k : Nat} {ok : Oper} {L : Array Bool → Act → Prop} {Q' : Exit → Act → World → Prop} {m : World} {u : Value} (hsel : Region.noSelect ops = true) (hap : apartB ops ok n k = true) (hW : Gr W m)
    (hL : ∀ s a w, Gr m w → L s a → wpAny P md ops Q' g s (a.put ok.dst u) w) :
    ∀ (f : Nat) (s : Array Bool) (a : Act) (w : World), s.getD k true = true → Gr m w → HF P md ops W n L f s a → wpAny P md ops Q' (f + g) s (a.put ok.dst u) w := by
  intro f
  induction f with
  | zero => intro s a w _ hw h; rw [Nat.zero_add]; exact hL s a w hw h
  | succ f ih =>
    intro s a w hk hw h
    obtain ⟨⟨i0, hi0⟩, hall⟩ := h
    rw [Nat.add_right_comm]
    refine ⟨fun h0 => ?_, fun i hi => ?_⟩
    · rw [h0] at hi0; cases hi0
    · have hik : i ≠ k := by
        intro e
        have := (mem_ready.1 hi).1
        rw [e, hk] at this; cases this
      refine wpOp_of_fOp hW hw ?_ (fOp_at hap (hall i hi).1 hik hsel u (hall i hi).2)
      rintro a' w' hw' ⟨b, rfl, hb⟩
      exact ih _ b w' (by rw [getD_set_ne true hik]; exact hk) hw' hb

theorem wpAny_unlaid {n g k : Nat} {ok : Oper} {L : Array Bool → Act → Prop} {Q' : Exit → Act → World → Prop} {X : Obj} (hsel : Region.noSelect ops = true) (hap : apartB ops ok n k = true)
    (hs : Region.sinkB md ops n = true) (hc : Region.chainB md ops n = true) (hn : n < ops.size) (hkn : k < n) (hok : ops[k]? = some ok) (hg : ok.guard = none) (haft : ok.after = #[])
    (hal : ∀ (a : Act) (w : World), (execOp a.eval ok).run P w = .ok (.value (.pointer (some ⟨w.heap.size, 0, none⟩))) (w.alloc X)) (hdone : ∀ s a, L s a → ∀ j ∈ Region.ready md ops s, n ≤ j)
    (hL : ∀ s a w0 w, Gr W w0 → Gr (w0.alloc X) w → L s a → wpAny P md ops Q' g s (a.put ok.dst (.pointer (some ⟨w0.heap.size, 0, none⟩))) w) :
    ∀ (f : Nat) (s : Array Bool) (a : Act) (w : World), HeadInv md ops n s → s.getD k true = false → Gr W w → HF P md ops W n L f (s.setIfInBounds k true) a → wpAny P md ops Q' (f + 1 + g) s a w := by
  intro f
  have lay : ∀ (f : Nat) (s : Array Bool) (a : Act) (w : World), k < s.size → Gr W w → HF P md ops W n L f (s.setIfInBounds k true) a → wpOp P ops Q' k (wpAny P md ops Q' (f + g) (s.setIfInBounds k true)) a w := by
    intro f s a w hks hw h
    unfold wpOp
    rw [hok]
    have hwant : Region.wanted ok (yielded ops a.tmps) = true := by unfold Region.wanted; rw [hg]
    simp only [hwant, if_true]
    refine Or.inl ?_
    unfold Oper.wp
    rw [hal]
    simp only [Oper.upon]
    refine wpAny_laid hsel hap (hw.trans (Gr.of (bl1 w X))) (fun s a w' hw' h' => hL s a w w' hw hw' h') f _ a _ ?_ (Gr.of (Below.refl _ _)) h
    simp [hks]
  have kready : ∀ s : Array Bool, s.getD k true = false → k ∈ Region.ready md ops s := fun s hk => mem_ready.2 ⟨hk, ok, hok, by rw [haft]; simp⟩
  have ksize : ∀ s : Array Bool, s.getD k true = false → k < s.size := by
    intro s hk
    rcases Nat.lt_or_ge k s.size with h | h
    · exact h
    · simp [Array.getElem?_eq_none h] at hk
  induction f with
  | zero =>
    intro s a w inv hk hw h
    rw [Nat.add_right_comm]
    refine ⟨fun h0 => ?_, fun i hi => ?_⟩
    · have := kready s hk; rw [h0] at this; cases this
    · by_cases hik : i = k
      · rw [hik]; exact lay 0 s a w (ksize s hk) hw h
      · have h1 := hdone _ _ h i (ready_mono hi hik)
        exact absurd hi (tail_waits hs hc hn inv _ k rfl hkn hk i h1)
  | succ f ih =>
    intro s a w inv hk hw h
    rw [Nat.add_right_comm]
    refine ⟨fun h0 => ?_, fun i hi => ?_⟩
    · have := kready s hk; rw [h0] at this; cases this
    · by_cases hik : i = k
      · rw [hik]; exact lay (f + 1) s a w (ksize s hk) hw h
      · obtain ⟨hin, hq⟩ := h.2 i (ready_mono hi hik)
        refine wpOp_of_fOp (Gr.of (Below.refl _ _)) hw (fun a' w' hw' h' => ?_) hq
        refine ih (s.setIfInBounds i true) a' w' (inv.set hi hin) (by rw [getD_set_ne true hik]; exact hk) hw' ?_
        rw [Array.setIfInBounds_comm _ _ hik]; exact h'

def allocB (md : Region.Mode) (ops : Array Oper) (n : Nat) (ok : Oper) : Bool :=
  Region.noSelect ops && decide (n + 1 < ops.size) && Region.sinkB md ops (n + 1) && Region.chainB md ops (n + 1) && apartB ops ok (n + 1) n && lexA md ops (n + 1) (ops.size - (n + 1)) n 0 ((Array.replicate ops.size false).setIfInBounds n true)

theorem gr_one (w : World) : Gr w { w with drawn := w.drawn + 1 } := ⟨⟨w.drawn + 1, #[]⟩, by rw [grow_empty]; rfl⟩
theorem gr_two (w : World) (d : Nat) (os : Array Obj) : Gr w { grow (redrawn w d) os with drawn := (grow (redrawn w d) os).drawn + 1 } := ⟨⟨d + 1, os⟩, rfl⟩

/-- The n-th operation lays the block. -/
theorem wp_region_alloc {id : Nat} {Q : Exit → Act → World → Prop} {a : Act} {w : World} {l : List Oper} {ok : Oper} {X : Obj} (n : Nat) (hm : P.follows .mixedOrders = true) (hW : Gr W { w with drawn := w.drawn + 1 })
    (hok : l[n]? = some ok) (hg : ok.guard = none) (haft : ok.after = #[]) (hB : allocB .any l.toArray n ok = true)
    (hal : ∀ (a : Act) (w : World), (execOp a.eval ok).run P w = .ok (.value (.pointer (some ⟨w.heap.size, 0, none⟩))) (w.alloc X))
    (h : wpFirm P l.toArray W (fun a' => ∀ d1 os1 d2 os2, wpList P l.toArray Q (l.drop (n + 1)) (a'.put ok.dst (.pointer (some ⟨W.heap.size + (os1 : Array Obj).size, 0, none⟩))) (grow (redrawn ((grow (redrawn W d1) os1).alloc X) d2) os2)) (l.take n) a) :
    (Code.region id l.toArray true).wp P Q a w := by
  simp only [allocB, Bool.and_eq_true, decide_eq_true_eq] at hB
  obtain ⟨⟨⟨⟨⟨hsel, hn⟩, hs⟩, hc⟩, hap⟩, hlex⟩ := hB
  have hn' : n + 1 < l.length := by simpa using hn
  have htl : (l.take n).length = n := by simp; omega
  have hdl : (l.drop (n + 1)).length = l.toArray.size - (n + 1) := by simp
  have hok' : l.toArray[n]? = some ok := by simpa using hok
  have inv0 : HeadInv .any l.toArray (n + 1) (Array.replicate l.toArray.size false) :=
    ⟨by simp, fun j oj _ hl => (by rw [getD_replicate_false] at hl; cases hl), fun t _ ht => getD_in (by simpa using ht) (getD_replicate_false _ _)⟩
  have hk0 : (Array.replicate l.toArray.size false).getD n true = false := getD_in (by simp; omega) (getD_replicate_false _ _)
  have inv1 : HeadInv .any l.toArray (n + 1) ((Array.replicate l.toArray.size false).setIfInBounds n true) := inv0.set (mem_ready.2 ⟨hk0, ok, hok', by rw [haft]; simp⟩) (by omega)
  have H := HF_lex (P := P) (W := W) (md := .any) (g := l.toArray.size - (n + 1)) hsel hs hc hn (l.take n) 0 _ a (fun j hj => by
    have hj' : j < n := by rw [htl] at hj; exact hj
    simp [hj']) inv1 (by rw [htl]; exact hlex) h
  refine wp_region_any hm ?_
  have R := wpAny_unlaid (Q' := Q) (g := l.toArray.size - (n + 1)) hsel hap hs hc hn (by omega) hok' hg haft hal (fun s' a' hL => seqB_ready hL.1) (fun s a' w0 w' h0 h1 hL => by
    obtain ⟨⟨d1, os1⟩, rfl⟩ := h0
    obtain ⟨⟨d2, os2⟩, rfl⟩ := h1
    have := wpAny_of_seq (md := .any) (Q' := Q) (l.drop (n + 1)) (n + 1) s _ _ (fun j => by simp [List.getElem?_drop]) (by rw [hdl]; exact hL.1) (hL.2 d1 os1 d2 os2)
    rw [hdl] at this
    simpa [grow, redrawn] using this) _ _ _ _ inv0 hk0 hW H
  rw [htl, show n + 1 + (l.toArray.size - (n + 1)) = l.toArray.size by omega] at R
  exact R
end
end Go.Proofs.Ytfaddlpemhifpaa
