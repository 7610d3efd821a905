/- The evaluator is right at code, and at functions. No program is named here. -/
import Derived.Scope
import Derived.Test.YtioagbejilllfaaEv13
namespace Go.Proofs.Ytioagbejilllfaa
namespace Ev
open Go Go.RowKit
set_option linter.unusedVariables false
set_option linter.unusedSimpArgs false

section
variable {w : World} {base : Nat} {F0 : Nat → Prop} {ρ : Nat → Nat} {H : Heap}

theorem view_new (R : HRel w base F0 ρ H) : ∀ (d : Nat) (c : C) (b : Bool) (t : T) (y : Value), view H d c = some (b, t) → RepC w base (Fb F0 ρ H) ρ H c y → RepT w (fun q => q < base ∧ (b = true ∨ F0 q)) t y := by
  have hp : ∀ (fr b : Bool) (t t' : T) (y : Value), some ((match t with | .v _ => true | _ => fr), t) = some (b, t') → RepC w base (Fb F0 ρ H) ρ H (.p fr t) y → RepT w (fun q => q < base ∧ (b = true ∨ F0 q)) t' y := by
    intro fr b t t' y h hr
    simp only [Option.some.injEq, Prod.mk.injEq] at h
    obtain ⟨h1, rfl⟩ := h
    cases hr with
    | p fr t y hr =>
      cases t with
      | v x => cases hr with | v _ hx => exact .v _ hx
      | s nn sz l =>
        simp at h1; subst h1
        exact hr.weak fun q hq => hq.2.elim (fun h => .inr ⟨h, hq.1⟩) fun h => .inl (.inl h)
  intro d
  induction d with
  | zero =>
    intro c b t y h hr
    cases c with
    | p fr t0 => exact hp fr b t0 t y h hr
    | _ => simp [view] at h
  | succ d ih =>
    intro c b t y h hr
    cases c with
    | p fr t0 => exact hp fr b t0 t y h hr
    | own k off n =>
      simp only [view, Option.bind_eq_bind, Option.bind_eq_some_iff, Option.some.injEq, Prod.mk.injEq] at h
      obtain ⟨⟨sz, es⟩, h1, es', h2, r, h3, h4, rfl⟩ := h
      have hb := getBlk_some h1
      obtain ⟨m1, m2, m3⟩ := mapM_get h3
      obtain ⟨c1, c2, c3⟩ := cut_some h2
      cases hr with
      | own k off n c a hk hn ha =>
        obtain ⟨g1, g2⟩ := ha _ _ hb
        have hlen : (r.map (·.map (·.2))).length = n := by simp [m1, c1]
        have := RepT.s (w := w) (F := fun q => q < base ∧ (b = true ∨ F0 q)) true sz (r.map (·.map (·.2))) (some a) c (fun i j => (w.cell? (a.add (i * sz + j))).getD .nilFunc) rfl (by omega) (fun h => by cases h)
          (fun i e hi => by
            simp only [List.getElem?_map, Option.map_eq_some_iff] at hi
            obtain ⟨q, q1, rfl⟩ := hi
            obtain ⟨x, x1, x2⟩ := m3 i q q1
            obtain ⟨l1, l2⟩ := cut_get h2 x1
            have := R.wid k sz es hb _ x l2
            simp [(mapM_get x2).1, this]) ?_ ?_
        · rwa [hlen] at this
        all_goals
          intro i e j t hi hj
          simp only [List.getElem?_map, Option.map_eq_some_iff] at hi
          obtain ⟨q, q1, rfl⟩ := hi
          simp only [List.getElem?_map, Option.map_eq_some_iff] at hj
          obtain ⟨p, p1, rfl⟩ := hj
          obtain ⟨x, x1, x2⟩ := m3 i q q1
          obtain ⟨l1, l2⟩ := cut_get h2 x1
          obtain ⟨n1, n2, n3⟩ := mapM_get x2
          obtain ⟨cc, d1, d2⟩ := n3 j p p1
          obtain ⟨y, e1, e2⟩ := R.cell k sz es hb _ j x cc l2 d1
          have e3 : w.cell? (a.add (i * sz + j)) = some y := by rw [g1, Addr.add_mid, ← e1, Nat.add_mul, Nat.add_assoc]
        · refine ⟨a, rfl, ?_, fun h => ?_, by rw [e3]; rfl⟩
          · rw [g1]
            exact R.lt k sz es hb
          · rw [g1] at h
            have := (R.lo k sz es hb).1
            have := h.1
            simp only at this
            omega
        · rw [e3]
          refine (ih cc p.1 p.2 y d2 e2).weak fun z hz => ⟨hz.1, hz.2.imp (fun hbt => ?_) id⟩
          rw [← h4] at hbt
          have := List.all_eq_true.1 hbt q (List.mem_of_getElem? q1)
          exact List.all_eq_true.1 this p (List.mem_of_getElem? p1)
    | _ => simp [view] at h
theorem viewD_new (R : HRel w base F0 ρ H) {d : D} {b : Bool} {td : TD} {y : Value} (h : viewD H d = some (b, td)) (hr : RepD w base (Fb F0 ρ H) ρ H d y) : RepTD w (fun q => q < base ∧ (b = true ∨ F0 q)) td y := by
  cases hr with
  | one c y hr =>
    simp only [viewD, Option.bind_eq_bind, Option.bind_eq_some_iff, Option.some.injEq, Prod.mk.injEq] at h
    obtain ⟨⟨b', t⟩, h1, rfl, rfl⟩ := h
    exact .one _ _ (view_new R _ _ _ _ _ h1 hr)
  | agg cs ys hr =>
    simp only [viewD, Option.bind_eq_bind, Option.bind_eq_some_iff, Option.some.injEq, Prod.mk.injEq] at h
    obtain ⟨r, h1, rfl, rfl⟩ := h
    obtain ⟨m1, m2, m3⟩ := mapM_get h1
    refine .agg _ _ ⟨by simp [m1, hr.1], fun i t hi => ?_⟩
    simp only [List.getElem?_map, Option.map_eq_some_iff] at hi
    obtain ⟨p, p1, rfl⟩ := hi
    obtain ⟨c, c1, c2⟩ := m3 i p p1
    obtain ⟨y, y1, y2⟩ := hr.2 i c c1
    refine ⟨y, y1, (view_new R _ _ _ _ _ c2 y2).weak fun z hz => ⟨hz.1, hz.2.imp (fun hbt => ?_) id⟩⟩
    exact List.all_eq_true.1 hbt p (List.mem_of_getElem? p1)
  | tup => simp [viewD] at h
end

section
variable {E : Env} {cp : CallP} {cf : CallF} {base : Nat} {F0 : Nat → Prop}

theorem Rel.drew {s : St} {a : Act} {w : World} {ρ : Nat → Nat} (R : Rel base F0 ρ s a w) : Rel base F0 ρ s a w.drew ∧ Ext w ρ s.h w.drew ρ s.h := by
  have X : Ext w ρ s.h w.drew ρ s.h := ⟨rfl, rfl, rfl, Nat.le_refl _, fun _ _ _ => rfl, fun _ _ h => h, fun _ _ => rfl, fun k B hB hn => ⟨B, hB, hn, fun sz es h => ⟨es, h, rfl⟩⟩⟩
  exact ⟨⟨hrel_gen R.heap X (fun k sz es h => .inl ⟨h, rfl, rfl⟩) fun k k' _ _ _ _ h1 h2 h3 => R.heap.inj k k' _ _ _ _ h1 h2 h3, R.tmps.mono fun c y hc => hc.ext R.heap.lt X, R.base⟩, X⟩
theorem Rel.pad {s : St} {a : Act} {w : World} {ρ : Nat → Nat} (R : Rel base F0 ρ s a w) (n : Nat) : Rel base F0 ρ { s with h := s.h ++ List.replicate n .no } a w ∧ Ext w ρ s.h w ρ (s.h ++ List.replicate n .no) := by
  have hback : ∀ (k sz : Nat) (es : List (List C)), (s.h ++ List.replicate n Blk.no)[k]? = some (.own sz es) → s.h[k]? = some (.own sz es) := fun k sz es h => by
    rw [List.getElem?_append] at h
    split at h
    · exact h
    · rw [List.getElem?_replicate] at h
      split at h <;> simp at h
  have hkeep : ∀ (k : Nat) B, s.h[k]? = some B → (s.h ++ List.replicate n Blk.no)[k]? = some B := fun k B h => by
    rw [List.getElem?_append_left (List.getElem?_eq_some_iff.1 h).1]; exact h
  have X : Ext w ρ s.h w ρ (s.h ++ List.replicate n .no) := ⟨rfl, rfl, rfl, Nat.le_refl _, fun _ _ _ => rfl, fun b hb ⟨k, sz, es, h1, h2⟩ => ⟨k, sz, es, hback _ _ _ h1, h2⟩, fun _ _ => rfl, fun k B hB hn => ⟨B, hkeep k B hB, hn, fun sz es h => ⟨es, h, rfl⟩⟩⟩
  exact ⟨⟨hrel_gen R.heap X (fun k sz es h => .inl ⟨hback _ _ _ h, rfl, rfl⟩) fun k k' _ _ _ _ h1 h2 h3 => R.heap.inj k k' _ _ _ _ (hback _ _ _ h1) (hback _ _ _ h2) h3, R.tmps.mono fun c y hc => hc.ext R.heap.lt X, R.base⟩, X⟩

theorem sorted_idx : ∀ (l : List Oper) (k : Nat), (((l.zipIdx k).map fun x => (x.2, x.1)).Pairwise fun x y : Nat × Oper => x.1 < y.1) ∧ ∀ x ∈ (l.zipIdx k).map fun x => (x.2, x.1), k ≤ x.1
  | [], k => ⟨by simp, fun x hx => by simp at hx⟩
  | o :: l, k => by
    obtain ⟨h1, h2⟩ := sorted_idx l (k + 1)
    simp only [List.zipIdx_cons, List.map_cons, List.pairwise_cons]
    refine ⟨⟨fun x hx => ?_, h1⟩, fun x hx => ?_⟩
    · have := h2 x hx; omega
    · rcases List.mem_cons.1 hx with h | h
      · subst h; exact Nat.le_refl _
      · have := h2 x h; omega
theorem mem_idx {ops : Array Oper} {i : Nat} {o : Oper} : (i, o) ∈ (ops.toList.zipIdx 0).map (fun x => (x.2, x.1)) ↔ ops[i]? = some o := by
  rw [List.mem_map]
  constructor
  · rintro ⟨⟨o', i'⟩, h1, h2⟩
    simp only [Prod.mk.injEq] at h2
    obtain ⟨rfl, rfl⟩ := h2
    have := List.mk_mem_zipIdx_iff_getElem?.1 h1
    simpa using this
  · intro h
    exact ⟨(o, i), List.mk_mem_zipIdx_iff_getElem?.2 (by simpa using h), rfl⟩

theorem drawOk_static {ops : Array Oper} {b : Nat} {U : Nat → List Nat} (h : drawOk ops b (fun i => (Region.before ops).toList.getD i 0) U = true) :
    Static ops b (fun i => (Region.before ops).toList.getD i 0) U (fun i => ((List.range ops.size).map fun i => ((List.range ops.size).filter (unordered (fun i => (Region.before ops).toList.getD i 0) i)).flatMap U).getD i []) := by
  unfold drawOk at h
  simp only [Bool.and_eq_true, List.all_eq_true] at h
  obtain ⟨h1, h2⟩ := h
  have hmem : ∀ (i : Nat) o, ops[i]? = some o → (o, i) ∈ ops.toList.zipIdx := fun i o ho => List.mk_mem_zipIdx_iff_getElem?.2 (by simpa using ho)
  have hget : ∀ i, i < ops.size → ∃ o, ops[i]? = some o := fun i hi => ⟨ops[i], Array.getElem?_eq_getElem hi⟩
  have hA : ∀ i, (Region.before ops).toList.getD i 0 = (Region.before ops).getD i 0 := fun i => by simp [List.getD_eq_getElem?_getD, Array.getD_eq_getD_getElem?]
  have hM : ∀ i j, i < ops.size → j < ops.size → unordered (fun i => (Region.before ops).toList.getD i 0) i j = true → ∀ x ∈ U j, x ∈ ((List.range ops.size).map fun i => ((List.range ops.size).filter (unordered (fun i => (Region.before ops).toList.getD i 0) i)).flatMap U).getD i [] := by
    intro i j hi hj hu x hx
    rw [List.getD_eq_getElem?_getD, List.getElem?_map, List.getElem?_range hi]
    simp only [Option.map_some, Option.getD_some]
    rw [List.mem_flatMap]
    exact ⟨j, by rw [List.mem_filter]; exact ⟨by simpa using hj, hu⟩, hx⟩
  refine ⟨fun i j hi hj hne hord => ?_, fun i o ho e he hb => ?_, fun i o ho j hb => ?_, fun i j hj hlt => ?_, fun i j oi oj hoi hoj hu => ?_⟩
  · obtain ⟨oi, ho⟩ := hget i hi
    obtain ⟨oj, hoj⟩ := hget j hj
    have := (h2 _ (hmem i oi ho) _ (hmem j oj hoj)).1.2
    simp only [Bool.or_eq_true, beq_iff_eq, Bool.not_eq_true', List.contains_eq_mem, decide_eq_false_iff_not] at this
    refine this.resolve_left fun h => h.elim hne fun h => ?_
    rw [hord] at h; simp at h
  · have := h1 _ (hmem i o ho)
    rw [← Array.all_toList, List.all_eq_true] at this
    have := this e he
    rw [hb] at this
    simpa using this
  · simp only [hA] at hb ⊢
    exact before_spec ops ho hb
  · have hi : i < ops.size := by omega
    obtain ⟨oi, ho⟩ := hget i hi
    obtain ⟨oj, hoj⟩ := hget j hj
    have := (h2 _ (hmem i oi ho) _ (hmem j oj hoj)).1.1
    simp only [Bool.or_eq_true, Bool.not_eq_true', decide_eq_false_iff_not] at this
    exact this.resolve_left (fun hh => hh hlt)
  · have hi : i < ops.size := (Array.getElem?_eq_some_iff.1 hoi).1
    have hj : j < ops.size := (Array.getElem?_eq_some_iff.1 hoj).1
    have := (h2 _ (hmem i oi hoi) _ (hmem j oj hoj)).2
    simp only [Bool.or_eq_true, Bool.not_eq_true'] at this
    have hs := this.resolve_left (by rw [hu]; simp)
    simp only [Bool.and_eq_true] at hs
    obtain ⟨ha, hd⟩ := hs
    unfold apartB at ha
    simp only [Bool.and_eq_true] at ha
    obtain ⟨ha1, ha2⟩ := ha
    have hu2 : unordered (fun i => (Region.before ops).toList.getD i 0) j i = true := by
      unfold unordered at hu ⊢
      simp only [Bool.and_eq_true, bne_iff_ne, ne_eq] at hu ⊢
      exact ⟨⟨fun h => hu.1.1 h.symm, hu.2⟩, hu.1.2⟩
    refine ⟨fun d hd' => ?_, fun d hd' => ?_, fun d hd' => ?_, fun x hx => ?_, hM i j hi hj hu, hM j i hj hi hu2⟩
    · rw [hd'] at ha1
      simp only [Bool.and_eq_true, Bool.not_eq_true', List.contains_eq_mem, decide_eq_false_iff_not] at ha1
      exact ha1.1
    · rw [hd'] at ha2
      simp only [Bool.not_eq_true', List.contains_eq_mem, decide_eq_false_iff_not] at ha2
      exact ha2
    · rw [hd'] at ha1
      simp only [Bool.and_eq_true, bne_iff_ne, ne_eq] at ha1
      exact ha1.2
    · unfold disjoint at hd
      have := List.all_eq_true.1 hd x hx
      simpa using this

/-- A region that draws. -/
theorem draw_ok (hE : TiOk E.P E.ti) (hcp : CpOk E.P cp) (hm : E.P.follows .mixedOrders = true) (hF : ∀ b, F0 b → b < base) {id : Nat} {ops : Array Oper} {s s' : St} {a : Act} {w : World} {ρ : Nat → Nat} (R : Rel base F0 ρ s a w) (h : evDraw E cp ops s = some s')
    {Q : Exit → Act → World → Prop} (hQ : ∀ a' w' ρ', Rel base F0 ρ' s' a' w' → Ext w ρ s.h w' ρ' s'.h → Q .normal a' w') : (Code.region id ops true).wp E.P Q a w := by
  refine wp_region_any hm ?_
  unfold evDraw at h
  simp only [Option.bind_eq_bind, Option.bind_eq_some_iff] at h
  obtain ⟨U0, h1, h2⟩ := h
  split at h2
  · rename_i hd
    have S := drawOk_static hd
    have hrun := evDraw2_run _ _ _ _ h2
    obtain ⟨R1, X1⟩ := R.drew
    obtain ⟨R2, X2⟩ := R1.pad ops.size
    refine draw_any (Q := Q) hE hcp hF S ops.size ((ops.toList.zipIdx 0).map fun x => (x.2, x.1)) _ _ s' a _ ρ (by simp) ?_ hrun (fun x hx B hB => ?_) R2 fun a' w' ρ' R3 X3 => hQ a' w' ρ' R3 ((X1.trans X2).trans X3)
    · refine ⟨fun i hi => ?_, by simp, fun x hx => mem_idx.1 (by cases x; exact hx), (sorted_idx _ _).1, fun i hi hl => ?_⟩
      · simp only [Array.getD_eq_getD_getElem?, Array.getElem?_replicate, hi, if_true, Option.getD_some, true_iff]
        exact ⟨ops[i], mem_idx.2 (Array.getElem?_eq_getElem hi)⟩
      · simp [Array.getD_eq_getD_getElem?, Array.getElem?_replicate, hi] at hl
    · rw [List.getElem?_append_right (by omega), List.getElem?_replicate] at hB
      split at hB
      · simpa using hB.symm
      · simp at hB
  · simp at h2

def exOf : Ex → Exit
  | .normal => .normal
  | .exit id => .exit id
  | .ret => .ret

/-- What is behind a piece of code. -/
def Post (base : Nat) (F0 : Nat → Prop) (w : World) (ρ : Nat → Nat) (H : Heap) (ex : Ex) (s' : St) (e : Exit) (a' : Act) (w' : World) : Prop := e = exOf ex ∧ ∃ ρ', Rel base F0 ρ' s' a' w' ∧ Ext w ρ H w' ρ' s'.h

theorem loop_ok {P : Program} {c : Code} {f : St → Option (Ex × St)} (hbody : ∀ s ex s' a w ρ, Rel base F0 ρ s a w → f s = some (ex, s') → c.wp P (Post base F0 w ρ s.h ex s') a w) :
    ∀ (m : Nat) (s s' : St) (ex : Ex) (a : Act) (w : World) (ρ : Nat → Nat), Rel base F0 ρ s a w → evLoop f m s = some (ex, s') → (Code.loop c).wp P (Post base F0 w ρ s.h ex s') a w := by
  intro m s s' ex a w ρ R h b k cs
  have key : ∀ (m : Nat) (s : St) (a : Act) (w : World) (ρ : Nat → Nat), Rel base F0 ρ s a w → evLoop f m s = some (ex, s') →
      ∃ e a' w', Post base F0 w ρ s.h ex s' e a' w' ∧ Arrives P (lone (b.at a (.code c :: .inLoop c :: k)) cs w) b k cs e a' w' := by
    intro m
    induction m with
    | zero => intro s a w ρ R h; simp [evLoop] at h
    | succ m ih =>
      intro s a w ρ R h
      simp only [evLoop, Option.bind_eq_bind, Option.bind_eq_some_iff] at h
      obtain ⟨⟨e1, s1⟩, h1, h2⟩ := h
      obtain ⟨e, a1, w1, hq, harr⟩ := hbody s e1 s1 a w ρ R h1 b (.inLoop c :: k) cs
      obtain ⟨rfl, ρ1, R1, X1⟩ := hq
      cases e1 with
      | normal =>
        obtain ⟨e2, a2, w2, ⟨q1, ρ2, R2, X2⟩, harr2⟩ := ih s1 a1 w1 ρ1 R1 h2
        exact ⟨e2, a2, w2, ⟨q1, ρ2, R2, X1.trans X2⟩, .of_steps (Steps.trans harr (.one step_inLoop)) harr2⟩
      | exit id =>
        simp only [Option.some.injEq, Prod.mk.injEq] at h2
        obtain ⟨rfl, rfl⟩ := h2
        exact ⟨_, a1, w1, ⟨rfl, ρ1, R1, X1⟩, .pass (x := .inLoop c) rfl (fun _ _ => .inl (by simp [exOf])) harr⟩
      | ret =>
        simp only [Option.some.injEq, Prod.mk.injEq] at h2
        obtain ⟨rfl, rfl⟩ := h2
        exact ⟨_, a1, w1, ⟨rfl, ρ1, R1, X1⟩, .pass (x := .inLoop c) rfl (fun _ _ => .inl (by simp [exOf])) harr⟩
  obtain ⟨e, a', w', hq, harr⟩ := key m s a w ρ R h
  exact ⟨e, a', w', hq, .of_steps (.one step_loop) harr⟩

theorem evC_ok (hE : TiOk E.P E.ti) (hcp : CpOk E.P cp) (hcf : CfOk E.P cf) (hm : E.P.follows .mixedOrders = true) (hF : ∀ b, F0 b → b < base) (m : Nat) : ∀ (c : Code) (s : St) (ex : Ex) (s' : St) (a : Act) (w : World) (ρ : Nat → Nat),
    Rel base F0 ρ s a w → evC E cp cf m c s = some (ex, s') → c.wp E.P (Post base F0 w ρ s.h ex s') a w := by
  intro c
  induction c with
  | skip =>
    intro s ex s' a w ρ R h
    simp only [evC, Option.some.injEq, Prod.mk.injEq] at h
    obtain ⟨rfl, rfl⟩ := h
    exact wp_skip ⟨rfl, ρ, R, Ext.refl _ _ _⟩
  | region id ops draw =>
    intro s ex s' a w ρ R h
    simp only [evC] at h
    cases draw with
    | true =>
      simp only [if_true, Option.map_eq_some_iff, Prod.mk.injEq] at h
      obtain ⟨s1, h1, rfl, rfl⟩ := h
      exact draw_ok hE hcp hm hF R h1 fun a' w' ρ' R' X' => ⟨rfl, ρ', R', X'⟩
    | false =>
      simp only [Bool.false_eq_true, if_false, Option.map_eq_some_iff, Prod.mk.injEq] at h
      obtain ⟨s1, h1, rfl, rfl⟩ := h
      refine wp_region (evOps_ok hE hcp hcf hF ops.toList _ s s1 a w ρ ⟨by simp, fun i n hi => ?_⟩ R h1 fun a' w' ρ' R' X' => ⟨rfl, ρ', R', X'⟩)
      have hlt := (List.getElem?_eq_some_iff.1 hi).1
      simp at hlt
      rw [List.getElem?_range hlt] at hi
      cases hi
      simp
  | seq x y ihx ihy =>
    intro s ex s' a w ρ R h
    simp only [evC, Option.bind_eq_bind, Option.bind_eq_some_iff] at h
    obtain ⟨⟨e1, s1⟩, h1, h2⟩ := h
    refine wp_seq (wp_mono (ihx s e1 s1 a w ρ R h1) fun e a' w' ⟨he, ρ', R', X'⟩ => ?_)
    subst he
    cases e1 with
    | normal =>
      exact wp_mono (ihy s1 ex s' a' w' ρ' R' h2) fun e2 a2 w2 ⟨he2, ρ2, R2, X2⟩ => ⟨he2, ρ2, R2, X'.trans X2⟩
    | exit id =>
      simp only [Option.some.injEq, Prod.mk.injEq] at h2
      obtain ⟨rfl, rfl⟩ := h2
      exact ⟨rfl, ρ', R', X'⟩
    | ret =>
      simp only [Option.some.injEq, Prod.mk.injEq] at h2
      obtain ⟨rfl, rfl⟩ := h2
      exact ⟨rfl, ρ', R', X'⟩
  | cond c x y ihx ihy =>
    intro s ex s' a w ρ R h
    simp only [evC, Option.bind_eq_bind, Option.bind_eq_some_iff] at h
    obtain ⟨d, h1, t, h2, h3⟩ := h
    have hc := asBool_rep (R.tmps.g.opnd h1) h2
    refine wp_cond hc ?_
    cases t with
    | true => simp only [if_true] at h3 ⊢; exact ihx s ex s' a w ρ R h3
    | false => simp only [Bool.false_eq_true, if_false] at h3 ⊢; exact ihy s ex s' a w ρ R h3
  | block id c ih =>
    intro s ex s' a w ρ R h
    simp only [evC, Option.bind_eq_bind, Option.bind_eq_some_iff, Option.some.injEq, Prod.mk.injEq] at h
    obtain ⟨⟨e1, s1⟩, h1, h2, rfl⟩ := h
    refine wp_block (wp_mono (ih s e1 s1 a w ρ R h1) fun e a' w' ⟨he, ρ', R', X'⟩ => ?_)
    subst he
    simp only at h2
    cases e1 with
    | normal => simp at h2; subst h2; exact ⟨rfl, ρ', R', X'⟩
    | ret => simp at h2; subst h2; exact ⟨rfl, ρ', R', X'⟩
    | exit id' =>
      simp only [exOf, Exit.inBlock]
      by_cases hid : id' = id
      · subst hid; simp at h2; subst h2; simp only [if_true]; exact ⟨rfl, ρ', R', X'⟩
      · simp [hid] at h2; subst h2; rw [if_neg hid]; exact ⟨rfl, ρ', R', X'⟩
  | loop c ih =>
    intro s ex s' a w ρ R h
    simp only [evC] at h
    exact loop_ok (f := evC E cp cf m c) (fun s ex s' a w ρ R h => ih s ex s' a w ρ R h) m s s' ex a w ρ R h
  | exit id =>
    intro s ex s' a w ρ R h
    simp only [evC, Option.some.injEq, Prod.mk.injEq] at h
    obtain ⟨rfl, rfl⟩ := h
    exact wp_exit ⟨rfl, ρ, R, Ext.refl _ _ _⟩
  | ret =>
    intro s ex s' a w ρ R h
    simp only [evC, Option.some.injEq, Prod.mk.injEq] at h
    obtain ⟨rfl, rfl⟩ := h
    exact wp_ret ⟨rfl, ρ, R, Ext.refl _ _ _⟩
  | rangeFunc f ps x y ihx ihy => intro s ex s' a w ρ R h; simp [evC] at h
  | scope c ih =>
    intro s ex s' a w ρ R h
    simp only [evC] at h
    refine wp_scope_straight (wp_mono (ih s ex s' a w ρ R h) fun e a' w' ⟨he, ρ', R', X'⟩ => ?_)
    subst he
    cases ex <;> exact ⟨rfl, ρ', R', X'⟩
  | label l =>
    intro s ex s' a w ρ R h
    simp only [evC, Option.some.injEq, Prod.mk.injEq] at h
    obtain ⟨rfl, rfl⟩ := h
    exact wp_label ⟨rfl, ρ, R, Ext.refl _ _ _⟩
  | goto l => intro s ex s' a w ρ R h; simp [evC] at h
  | refuse why => intro s ex s' a w ρ R h; simp [evC] at h
end
end Ev
end Go.Proofs.Ytioagbejilllfaa
