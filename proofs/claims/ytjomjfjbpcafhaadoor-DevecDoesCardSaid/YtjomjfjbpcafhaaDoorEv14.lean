/- The evaluator is right at code, and at functions. No program is named here. -/
import Derived.Test.YtjomjfjbpcafhaaDoorEv13
namespace Go.Proofs.YtjomjfjbpcafhaaDoor
namespace Ev
open Go Go.RowKit
set_option linter.unusedVariables false
set_option linter.unusedSimpArgs false

section
variable {w : World} {base : Nat} {F0 : Nat → Prop} {ρ : Nat → Nat} {H : Heap}

theorem view_new (R : HRel w base F0 ρ H) : ∀ (d : Nat) (c : C) (b : Bool) (t : T) (y : Value), view H d c = some (b, t) → RepC w base (Fb F0 ρ H) ρ H c y → RepT w (fun q => q < base ∧ (b = true ∨ F0 q)) t y := by
  have hp : ∀ (fr b : Bool) (t t' : T) (y : Value), some ((match t with | .v _ => true | _ => fr), t) = some (b, t') → RepC w base (Fb F0 ρ H) ρ H (.p fr t) y → RepT w (fun q => q < base ∧ (b = true ∨ F0 q)) t' y := by
    intro fr b t t' y h hr
    simp only [Option.some.injEq, Prod.mk.injEq] at h
    obtain ⟨h1, rfl⟩ := h
    cases hr with
    | p fr t y hr =>
      cases t with
      | v x => cases hr with | v _ hx => exact .v _ hx
      | s nn sz l =>
        simp at h1; subst h1
        exact hr.weak fun q hq => hq.2.elim (fun h => .inr ⟨h, hq.1⟩) fun h => .inl (.inl h)
  intro d
  induction d with
  | zero =>
    intro c b t y h hr
    cases c with
    | p fr t0 => exact hp fr b t0 t y h hr
    | _ => simp [view] at h
  | succ d ih =>
    intro c b t y h hr
    cases c with
    | p fr t0 => exact hp fr b t0 t y h hr
    | own k off n =>
      simp only [view, Option.bind_eq_bind, Option.bind_eq_some_iff, Option.some.injEq, Prod.mk.injEq] at h
      obtain ⟨⟨sz, es⟩, h1, es', h2, r, h3, h4, rfl⟩ := h
      have hb := getBlk_some h1
      obtain ⟨m1, m2, m3⟩ := mapM_get h3
      obtain ⟨c1, c2, c3⟩ := cut_some h2
      cases hr with
      | own k off n c a hk hn ha =>
        obtain ⟨g1, g2⟩ := ha _ _ hb
        have hlen : (r.map (·.map (·.2))).length = n := by simp [m1, c1]
        have := RepT.s (w := w) (F := fun q => q < base ∧ (b = true ∨ F0 q)) true sz (r.map (·.map (·.2))) (some a) c (fun i j => (w.cell? (a.add (i * sz + j))).getD .nilFunc) rfl (by omega) (fun h => by cases h)
          (fun i e hi => by
            simp only [List.getElem?_map, Option.map_eq_some_iff] at hi
            obtain ⟨q, q1, rfl⟩ := hi
            obtain ⟨x, x1, x2⟩ := m3 i q q1
            obtain ⟨l1, l2⟩ := cut_get h2 x1
            have := R.wid k sz es hb _ x l2
            simp [(mapM_get x2).1, this]) ?_ ?_
        · rwa [hlen] at this
        all_goals
          intro i e j t hi hj
          simp only [List.getElem?_map, Option.map_eq_some_iff] at hi
          obtain ⟨q, q1, rfl⟩ := hi
          simp only [List.getElem?_map, Option.map_eq_some_iff] at hj
          obtain ⟨p, p1, rfl⟩ := hj
          obtain ⟨x, x1, x2⟩ := m3 i q q1
          obtain ⟨l1, l2⟩ := cut_get h2 x1
          obtain ⟨n1, n2, n3⟩ := mapM_get x2
          obtain ⟨cc, d1, d2⟩ := n3 j p p1
          obtain ⟨y, e1, e2⟩ := R.cell k sz es hb _ j x cc l2 d1
          have e3 : w.cell? (a.add (i * sz + j)) = some y := by rw [g1, Addr.add_mid, ← e1, Nat.add_mul, Nat.add_assoc]
        · refine ⟨a, rfl, ?_, fun h => ?_, by rw [e3]; rfl⟩
          · rw [g1]
            exact R.lt k sz es hb
          · rw [g1] at h
            have := (R.lo k sz es hb).1
            have := h.1
            simp only at this
            omega
        · rw [e3]
          refine (ih cc p.1 p.2 y d2 e2).weak fun z hz => ⟨hz.1, hz.2.imp (fun hbt => ?_) id⟩
          rw [← h4] at hbt
          have := List.all_eq_true.1 hbt q (List.mem_of_getElem? q1)
          exact List.all_eq_true.1 this p (List.mem_of_getElem? p1)
    | _ => simp [view] at h
theorem viewD_new (R : HRel w base F0 ρ H) {d : D} {b : Bool} {td : TD} {y : Value} (h : viewD H d = some (b, td)) (hr : RepD w base (Fb F0 ρ H) ρ H d y) : RepTD w (fun q => q < base ∧ (b = true ∨ F0 q)) td y := by
  cases hr with
  | one c y hr =>
    simp only [viewD, Option.bind_eq_bind, Option.bind_eq_some_iff, Option.some.injEq, Prod.mk.injEq] at h
    obtain ⟨⟨b', t⟩, h1, rfl, rfl⟩ := h
    exact .one _ _ (view_new R _ _ _ _ _ h1 hr)
  | agg cs ys hr =>
    simp only [viewD, Option.bind_eq_bind, Option.bind_eq_some_iff, Option.some.injEq, Prod.mk.injEq] at h
    obtain ⟨r, h1, rfl, rfl⟩ := h
    obtain ⟨m1, m2, m3⟩ := mapM_get h1
    refine .agg _ _ ⟨by simp [m1, hr.1], fun i t hi => ?_⟩
    simp only [List.getElem?_map, Option.map_eq_some_iff] at hi
    obtain ⟨p, p1, rfl⟩ := hi
    obtain ⟨c, c1, c2⟩ := m3 i p p1
    obtain ⟨y, y1, y2⟩ := hr.2 i c c1
    refine ⟨y, y1, (view_new R _ _ _ _ _ c2 y2).weak fun z hz => ⟨hz.1, hz.2.imp (fun hbt => ?_) id⟩⟩
    exact List.all_eq_true.1 hbt p (List.mem_of_getElem? p1)
  | tup => simp [viewD] at h
end

section
variable {E : Env} {cp : CallP} {cf : CallF} {base : Nat} {F0 : Nat → Prop}

theorem Rel.drew {s : St} {a : Act} {w : World} {ρ : Nat → Nat} (R : Rel base F0 ρ s a w) : Rel base F0 ρ s a w.drew ∧ Ext w ρ s.h w.drew ρ s.h := by
  have X : Ext w ρ s.h w.drew ρ s.h := ⟨rfl, rfl, rfl, Nat.le_refl _, fun _ _ _ => rfl, fun _ _ h => h, fun _ _ => rfl, fun k B hB hn => ⟨B, hB, hn, fun sz es h => ⟨es, h, rfl⟩⟩, fun k es _ h => ⟨h, rfl⟩⟩
  exact ⟨⟨hrel_gen R.heap X (fun k sz es h => .inl ⟨h, rfl, rfl⟩) fun k k' _ _ _ _ h1 h2 h3 => R.heap.inj k k' _ _ _ _ h1 h2 h3, R.tmps.mono fun c y hc => hc.ext R.heap.lt X, R.base⟩, X⟩
theorem Rel.pad {s : St} {a : Act} {w : World} {ρ : Nat → Nat} (R : Rel base F0 ρ s a w) (n : Nat) : Rel base F0 ρ { s with h := s.h ++ List.replicate n .no } a w ∧ Ext w ρ s.h w ρ (s.h ++ List.replicate n .no) := by
  have hback : ∀ (k sz : Nat) (es : List (List C)), (s.h ++ List.replicate n Blk.no)[k]? = some (.own sz es) → s.h[k]? = some (.own sz es) := fun k sz es h => by
    rw [List.getElem?_append] at h
    split at h
    · exact h
    · rw [List.getElem?_replicate] at h
      split at h <;> simp at h
  have hkeep : ∀ (k : Nat) B, s.h[k]? = some B → (s.h ++ List.replicate n Blk.no)[k]? = some B := fun k B h => by
    rw [List.getElem?_append_left (List.getElem?_eq_some_iff.1 h).1]; exact h
  have X : Ext w ρ s.h w ρ (s.h ++ List.replicate n .no) := ⟨rfl, rfl, rfl, Nat.le_refl _, fun _ _ _ => rfl, fun b hb ⟨k, sz, es, h1, h2⟩ => ⟨k, sz, es, hback _ _ _ h1, h2⟩, fun _ _ => rfl, fun k B hB hn => ⟨B, hkeep k B hB, hn, fun sz es h => ⟨es, h, rfl⟩⟩, fun k es _ h => ⟨hkeep k _ h, rfl⟩⟩
  exact ⟨⟨hrel_gen R.heap X (fun k sz es h => .inl ⟨hback _ _ _ h, rfl, rfl⟩) fun k k' _ _ _ _ h1 h2 h3 => R.heap.inj k k' _ _ _ _ (hback _ _ _ h1) (hback _ _ _ h2) h3, R.tmps.mono fun c y hc => hc.ext R.heap.lt X, R.base⟩, X⟩

theorem sorted_idx : ∀ (l : List Oper) (k : Nat), (((l.zipIdx k).map fun x => (x.2, x.1)).Pairwise fun x y : Nat × Oper => x.1 < y.1) ∧ ∀ x ∈ (l.zipIdx k).map fun x => (x.2, x.1), k ≤ x.1
  | [], k => ⟨by simp, fun x hx => by simp at hx⟩
  | o :: l, k => by
    obtain ⟨h1, h2⟩ := sorted_idx l (k + 1)
    simp only [List.zipIdx_cons, List.map_cons, List.pairwise_cons]
    refine ⟨⟨fun x hx => ?_, h1⟩, fun x hx => ?_⟩
    · have := h2 x hx; omega
    · rcases List.mem_cons.1 hx with h | h
      · subst h; exact Nat.le_refl _
      · have := h2 x h; omega
theorem mem_idx {ops : Array Oper} {i : Nat} {o : Oper} : (i, o) ∈ (ops.toList.zipIdx 0).map (fun x => (x.2, x.1)) ↔ ops[i]? = some o := by
  rw [List.mem_map]
  constructor
  · rintro ⟨⟨o', i'⟩, h1, h2⟩
    simp only [Prod.mk.injEq] at h2
    obtain ⟨rfl, rfl⟩ := h2
    have := List.mk_mem_zipIdx_iff_getElem?.1 h1
    simpa using this
  · intro h
    exact ⟨(o, i), List.mk_mem_zipIdx_iff_getElem?.2 (by simpa using h), rfl⟩

theorem drawOk_static {ops : Array Oper} {b : Nat} {U : Nat → List Nat} (h : drawOk ops b (fun i => (Region.before ops).toList.getD i 0) U = true) :
    Static ops b (fun i => (Region.before ops).toList.getD i 0) U (fun i => ((List.range ops.size).map fun i => ((List.range ops.size).filter (unordered (fun i => (Region.before ops).toList.getD i 0) i)).flatMap U).getD i []) := by
  unfold drawOk at h
  simp only [Bool.and_eq_true, List.all_eq_true] at h
  obtain ⟨⟨_, h1⟩, h2⟩ := h
  have hmem : ∀ (i : Nat) o, ops[i]? = some o → (o, i) ∈ ops.toList.zipIdx := fun i o ho => List.mk_mem_zipIdx_iff_getElem?.2 (by simpa using ho)
  have hget : ∀ i, i < ops.size → ∃ o, ops[i]? = some o := fun i hi => ⟨ops[i], Array.getElem?_eq_getElem hi⟩
  have hA : ∀ i, (Region.before ops).toList.getD i 0 = (Region.before ops).getD i 0 := fun i => by simp [List.getD_eq_getElem?_getD, Array.getD_eq_getD_getElem?]
  have hM : ∀ i j, i < ops.size → j < ops.size → unordered (fun i => (Region.before ops).toList.getD i 0) i j = true → ∀ x ∈ U j, x ∈ ((List.range ops.size).map fun i => ((List.range ops.size).filter (unordered (fun i => (Region.before ops).toList.getD i 0) i)).flatMap U).getD i [] := by
    intro i j hi hj hu x hx
    rw [List.getD_eq_getElem?_getD, List.getElem?_map, List.getElem?_range hi]
    simp only [Option.map_some, Option.getD_some]
    rw [List.mem_flatMap]
    exact ⟨j, by rw [List.mem_filter]; exact ⟨by simpa using hj, hu⟩, hx⟩
  refine ⟨fun i j hi hj hne hord => ?_, fun i o ho e he hb => ?_, fun i o ho j hb => ?_, fun i j hj hlt => ?_, fun i j oi oj hoi hoj hu => ?_⟩
  · obtain ⟨oi, ho⟩ := hget i hi
    obtain ⟨oj, hoj⟩ := hget j hj
    have := (h2 _ (hmem i oi ho) _ (hmem j oj hoj)).1.2
    simp only [Bool.or_eq_true, beq_iff_eq, Bool.not_eq_true', List.contains_eq_mem, decide_eq_false_iff_not] at this
    refine this.resolve_left fun h => h.elim hne fun h => ?_
    rw [hord] at h; simp at h
  · have := h1 _ (hmem i o ho)
    rw [← Array.all_toList, List.all_eq_true] at this
    have := this e he
    rw [hb] at this
    simpa using this
  · simp only [hA] at hb ⊢
    exact before_spec ops ho hb
  · have hi : i < ops.size := by omega
    obtain ⟨oi, ho⟩ := hget i hi
    obtain ⟨oj, hoj⟩ := hget j hj
    have := (h2 _ (hmem i oi ho) _ (hmem j oj hoj)).1.1
    simp only [Bool.or_eq_true, Bool.not_eq_true', decide_eq_false_iff_not] at this
    exact this.resolve_left (fun hh => hh hlt)
  · have hi : i < ops.size := (Array.getElem?_eq_some_iff.1 hoi).1
    have hj : j < ops.size := (Array.getElem?_eq_some_iff.1 hoj).1
    have := (h2 _ (hmem i oi hoi) _ (hmem j oj hoj)).2
    simp only [Bool.or_eq_true, Bool.not_eq_true'] at this
    have hs := this.resolve_left (by rw [hu]; simp)
    simp only [Bool.and_eq_true] at hs
    obtain ⟨ha, hd⟩ := hs
    unfold apartB at ha
    simp only [Bool.and_eq_true] at ha
    obtain ⟨ha1, ha2⟩ := ha
    have hu2 : unordered (fun i => (Region.before ops).toList.getD i 0) j i = true := by
      unfold unordered at hu ⊢
      simp only [Bool.and_eq_true, bne_iff_ne, ne_eq] at hu ⊢
      exact ⟨⟨fun h => hu.1.1 h.symm, hu.2⟩, hu.1.2⟩
    refine ⟨fun d hd' => ?_, fun d hd' => ?_, fun d hd' => ?_, fun x hx => ?_, hM i j hi hj hu, hM j i hj hi hu2⟩
    · rw [hd'] at ha1
      simp only [Bool.and_eq_true, Bool.not_eq_true', List.contains_eq_mem, decide_eq_false_iff_not] at ha1
      exact ha1.1
    · rw [hd'] at ha2
      simp only [Bool.not_eq_true', List.contains_eq_mem, decide_eq_false_iff_not] at ha2
      exact ha2
    · rw [hd'] at ha1
      simp only [Bool.and_eq_true, bne_iff_ne, ne_eq] at ha1
      exact ha1.2
    · unfold disjoint at hd
      have := List.all_eq_true.1 hd x hx
      simpa using this

theorem drawOk_plain {ops : Array Oper} {b : Nat} {A : Nat → Nat} {U : Nat → List Nat} (h : drawOk ops b A U = true) : ∀ (i : Nat) o, ops[i]? = some o → noDefer o = true := by
  unfold drawOk at h
  simp only [Bool.and_eq_true] at h
  intro i o ho
  exact List.all_eq_true.1 h.1.1 o (by rw [Array.mem_toList_iff]; exact Array.mem_of_getElem? ho)
theorem ops_lift {P : Program} {ops : Array Oper} {Q : Exit → Act → World → Prop} {r : Option Nat} {n : Nat} (hd : ∀ (i : Nat) o, ops[i]? = some o → noDefer o = true) (hno : ¬ LetsOut Q) :
    ∀ (is : List Nat) (a : Act) (w : World), wpOps P ops Q is a w → wpOpsIn (FR r) n P ops Q is a w
  | [], _, _, h => h
  | i :: rest, a, w, h => by
    unfold wpOps at h
    unfold wpOpsIn
    cases ho : ops[i]? with
    | none =>
      rw [ho] at h
      exact ops_lift hd hno rest a w h
    | some o =>
      rw [ho] at h
      dsimp only at h ⊢
      by_cases hw : Region.wanted o (yielded ops a.tmps) = true
      · rw [if_pos hw] at h ⊢
        rcases h with h | ⟨_, h⟩
        · exact wpIn_of_wp (hd i o ho) (Oper.wp_mono (fun a w => ops_lift hd hno rest a w) h)
        · exact absurd h hno
      · rw [if_neg hw] at h ⊢
        exact ⟨fun _ _ => trivial, ops_lift hd hno rest _ _ h⟩
theorem region_any_in {P : Program} {id n : Nat} {r : Option Nat} {ops : Array Oper} {Q : Exit → Act → World → Prop} {a : Act} {w : World} (hm : P.follows .mixedOrders = true) (hd : ∀ (i : Nat) o, ops[i]? = some o → noDefer o = true)
    (h : wpAny P .any ops (fun e a w => e = .normal ∧ Q .normal a w) ops.size (Array.replicate ops.size false) a { w with drawn := w.drawn + 1 }) : (Code.region id ops true).wpIn (FR r) n P Q a w := by
  have h2 : (Code.region id ops true).wpIn (FR r) n P (fun e a w => e = .normal ∧ Q .normal a w) a w :=
    wpIn_region_draw fun t => by
      simp only [Region.schedule, hm, Bool.true_or, if_true]
      exact ops_lift (Q := fun e a w => e = .normal ∧ Q .normal a w) hd (by rintro ⟨_, _, h, _⟩; cases h) _ _ _ (wpAny_sound ops.size t _ a _ h)
  exact Code.wpIn_mono (fun e a w ⟨h1, h3⟩ => by subst h1; exact h3) h2

/-- A region that draws. -/
theorem draw_in (hE : TiOk E.P E.ti) (hcp : CpOk E.P cp) (hm : E.P.follows .mixedOrders = true) (hF : ∀ b, F0 b → b < base) {id n : Nat} {r : Option Nat} {ops : Array Oper} {s s' : St} {a : Act} {w : World} {ρ : Nat → Nat} (R : Rel base F0 ρ s a w) (h : evDraw E cp ops s = some s')
    {Q : Exit → Act → World → Prop} (hQ : ∀ a' w' ρ', Rel base F0 ρ' s' a' w' → Ext w ρ s.h w' ρ' s'.h → a'.defers = a.defers → Q .normal a' w') : (Code.region id ops true).wpIn (FR r) n E.P Q a w := by
  unfold evDraw at h
  simp only [Option.bind_eq_bind, Option.bind_eq_some_iff] at h
  obtain ⟨U0, h1, h2⟩ := h
  split at h2
  · rename_i hd
    refine region_any_in hm (drawOk_plain hd) ?_
    have S := drawOk_static hd
    have hrun := evDraw2_run _ _ _ _ h2
    obtain ⟨R1, X1⟩ := R.drew
    obtain ⟨R2, X2⟩ := R1.pad ops.size
    refine draw_any (Q := fun e a w => e = .normal ∧ Q .normal a w) hE hcp hF S ops.size ((ops.toList.zipIdx 0).map fun x => (x.2, x.1)) _ _ s' a _ ρ (by simp) ?_ hrun (fun x hx B hB => ?_) R2 fun a' w' ρ' R3 X3 D3 => ⟨rfl, hQ a' w' ρ' R3 ((X1.trans X2).trans X3) D3⟩
    · refine ⟨fun i hi => ?_, by simp, fun x hx => mem_idx.1 (by cases x; exact hx), (sorted_idx _ _).1, fun i hi hl => ?_⟩
      · simp only [Array.getD_eq_getD_getElem?, Array.getElem?_replicate, hi, if_true, Option.getD_some, true_iff]
        exact ⟨ops[i], mem_idx.2 (Array.getElem?_eq_getElem hi)⟩
      · simp [Array.getD_eq_getD_getElem?, Array.getElem?_replicate, hi] at hl
    · rw [List.getElem?_append_right (by omega), List.getElem?_replicate] at hB
      split at hB
      · simpa using hB.symm
      · simp at hB
  · simp at h2

theorem cutAt_ok {ops : Array Oper} {m : Nat} (h : cutAt ops = some m) : m ≤ ops.size ∧ ∀ i, m ≤ i → i < ops.size → ∀ j, j < i → ((Region.before ops).toList.getD i 0).testBit j = true := by
  unfold cutAt at h
  simp only at h
  split at h
  · split at h
    · rename_i h1
      simp only [Option.some.injEq] at h
      subst h
      refine ⟨h1.1, fun i hi hlt j hj => ?_⟩
      have h2 := List.all_eq_true.1 h1.2 i (by simpa using hlt)
      simp only [Bool.or_eq_true, decide_eq_true_eq] at h2
      have h3 := h2.resolve_left (by omega)
      exact List.all_eq_true.1 h3 j (by simpa using hj)
    · simp at h
  · simp at h
/-- A region that draws, and whose last operations stand in one order. -/
theorem draw_cut {cf : CallG} {A B : Nat → Prop} {J : Heap → (Nat → Nat) → World → Prop} (hE : TiOk E.P E.ti) (hcp : CpOk E.P cp) (hcf : CfOk E.P cf.f) (hY : YOk E.P base F0 cf.y A B J) (hm : E.P.follows .mixedOrders = true) (hF : ∀ b, F0 b → b < base) {id n m : Nat} {r : Option Nat} {ops : Array Oper} {s s' : St} {a : Act} {w : World} {ρ : Nat → Nat} (hc : cutAt ops = some m) (R : Rel base F0 ρ s a w) (hJ : J s.h ρ w) (h : evCut E cp cf ops m s = some s')
    {Q : Exit → Act → World → Prop} (hno : ¬ LetsOut Q) (hQ : ∀ a' w' ρ', Rel base F0 ρ' s' a' w' → ExtA A w ρ s.h w' ρ' s'.h → J s'.h ρ' w' → a'.defers = a.defers → Q .normal a' w') : (Code.region id ops true).wpIn (FR r) n E.P Q a w := by
  obtain ⟨hle, hcut⟩ := cutAt_ok hc
  unfold evCut at h
  simp only [Option.bind_eq_bind] at h
  split at h
  · rename_i hd
    simp only [Option.bind_eq_some_iff] at h
    obtain ⟨s1, h1, h2⟩ := h
    refine wpIn_region_any hm ?_
    have S : Static ops s.h.length (fun i => (Region.before ops).toList.getD i 0) (fun _ => []) (fun _ => []) := by
      have S0 := drawOk_static hd
      have e : (fun i => ((List.range ops.size).map fun i => ((List.range ops.size).filter (unordered (fun i => (Region.before ops).toList.getD i 0) i)).flatMap fun _ => ([] : List Nat)).getD i []) = fun _ => [] := by
        funext i
        rw [List.getD_eq_getElem?_getD, List.getElem?_map]
        cases (List.range ops.size)[i]? <;> simp
      rw [e] at S0
      exact S0
    have hrun := evDraw2_run _ _ _ _ h1
    obtain ⟨R1, X1⟩ := R.drew
    obtain ⟨R2, X2⟩ := R1.pad ops.size
    have hin : ∀ i o, (i, o) ∈ ((ops.toList.take m).zipIdx 0).map (fun x => (x.2, x.1)) → i < m ∧ ops[i]? = some o := fun i o hx => by
      rw [List.mem_map] at hx
      obtain ⟨⟨o', i'⟩, g1, g2⟩ := hx
      simp only [Prod.mk.injEq] at g2
      obtain ⟨rfl, rfl⟩ := g2
      have := List.mk_mem_zipIdx_iff_getElem?.1 g1
      rw [List.getElem?_take] at this
      split at this
      · rename_i hlt; exact ⟨hlt, by simpa using this⟩
      · simp at this
    have hat : ∀ i o, i < m → ops[i]? = some o → (i, o) ∈ ((ops.toList.take m).zipIdx 0).map (fun x => (x.2, x.1)) := fun i o hi ho => by
      rw [List.mem_map]
      refine ⟨(o, i), List.mk_mem_zipIdx_iff_getElem?.2 ?_, rfl⟩
      rw [List.getElem?_take, if_pos hi]
      simpa using ho
    have key := draw_anyT (Q := Q) (n := n) (r := r) (m := m) (k := ops.size - m) hE hcp hF S (by omega) hcut (drawOk_plain hd) hno m (((ops.toList.take m).zipIdx 0).map fun x => (x.2, x.1)) (Array.replicate ops.size false) _ _ a _ ρ (by simp; omega) ?_ hrun (fun x hx B hB => ?_) R2 fun a' w' ρ' R3 X3 D3 => ?_
    · rw [show m + (ops.size - m) = ops.size by omega] at key
      exact key
    · refine ⟨fun i hi => ?_, fun i h1 h2 => ?_, by simp, fun x hx => (hin x.1 x.2 hx).2, fun x hx => (hin x.1 x.2 hx).1, (sorted_idx _ _).1, fun i hi hl => ?_⟩
      · have hlt : i < ops.size := by omega
        simp only [Array.getD_eq_getD_getElem?, Array.getElem?_replicate, hlt, if_true, Option.getD_some, true_iff]
        exact ⟨ops[i], hat i _ hi (Array.getElem?_eq_getElem hlt)⟩
      · simp [Array.getD_eq_getD_getElem?, Array.getElem?_replicate, h2]
      · simp [Array.getD_eq_getD_getElem?, Array.getElem?_replicate, hi] at hl
    · rw [List.getElem?_append_right (by omega), List.getElem?_replicate] at hB
      split at hB
      · simpa using hB.symm
      · simp at hB
    · have X := (X1.trans X2).trans X3
      refine evOps_in hE hcp hcf hY hF hno (ops.toList.drop m) _ s1 s' a' w' ρ' ⟨by simp, fun i q hi => ?_⟩ R3 (hY.keep _ _ _ _ _ _ R.heap hJ X.toA R3.heap) h2 fun a2 w2 ρ2 R4 X4 J4 D4 => hQ a2 w2 ρ2 R4 (X.toA.trans X4) J4 (D4.trans D3)
      have hlt := (List.getElem?_eq_some_iff.1 hi).1
      simp at hlt
      rw [List.getElem?_range' (by simpa using hlt)] at hi
      simp only [Option.some.injEq] at hi
      subst hi
      simp
  · simp at h

def exOf : Ex → Exit
  | .normal => .normal
  | .exit id => .exit id
  | .ret => .ret

/-! Objects that are no cells. -/
theorem obj_bsize {w : World} {l : Nat} {o o' : Obj} (h : w.heap[l]? = some o) (h1 : o.isCells = false) (h2 : o'.isCells = false) (b : Nat) : bsize (w.putObj l o') b = bsize w b := by
  unfold bsize
  by_cases hb : b = l
  · subst hb
    rw [World.putObj_heap_same (Array.getElem?_eq_some_iff.1 h).1, h]
    cases o <;> cases o' <;> simp_all [Obj.isCells]
  · rw [World.putObj_heap_other hb]
theorem obj_zero {w : World} {l : Nat} {o : Obj} (h : w.heap[l]? = some o) (h1 : o.isCells = false) : bsize w l = 0 := by
  unfold bsize
  rw [h]
  cases o <;> simp_all [Obj.isCells]
theorem obj_cell {w : World} {l : Nat} {o o' : Obj} (h : w.heap[l]? = some o) (h1 : o.isCells = false) {a : Addr} {v : Value} (hc : w.cell? a = some v) : (w.putObj l o').cell? a = some v := by
  have hb : a.block ≠ l := fun e => by have := bsize_cell hc; rw [e, obj_zero h h1] at this; omega
  rw [World.cell?_of_block (w := w) (World.putObj_heap_other hb)]
  exact hc
theorem obj_frozen {w : World} {l : Nat} {o o' : Obj} (h : w.heap[l]? = some o) (h2 : o'.isCells = false) {a : Addr} (hf : w.frozen? a = false) : (w.putObj l o').frozen? a = false := by
  by_cases hb : a.block = l
  · unfold World.frozen?
    rw [hb, World.putObj_heap_same (Array.getElem?_eq_some_iff.1 h).1]
    cases o' <;> simp_all [Obj.isCells]
  · rw [World.frozen?_of_block (w := w) (World.putObj_heap_other hb)]
    exact hf
section
variable {w : World} {base : Nat} {F0 : Nat → Prop} {ρ : Nat → Nat} {H : Heap} {l : Nat} {o o' : Obj}
theorem RepC.obj {F : Nat → Prop} (h : w.heap[l]? = some o) (h1 : o.isCells = false) (h2 : o'.isCells = false) {c : C} {y : Value} (hr : RepC w base F ρ H c y) : RepC (w.putObj l o') base F ρ H c y :=
  hr.mono (Nat.le_of_eq World.putObj_size.symm) (fun b hb hp hn => ⟨World.putObj_heap_other fun e => by rw [e, obj_zero h h1] at hp; omega, hn⟩) fun k B hB hno => ⟨B, hB, hno, fun sz es' he => ⟨es', he, rfl, obj_bsize h h1 h2 _⟩⟩
theorem HRel.obj (R : HRel w base F0 ρ H) (h : w.heap[l]? = some o) (h1 : o.isCells = false) (h2 : o'.isCells = false) : HRel (w.putObj l o') base F0 ρ H where
  laid := R.laid.cells (Nat.le_of_eq World.putObj_size.symm) fun a v hc => obj_cell h h1 hc
  lo := fun k sz es hk => by rw [World.putObj_size]; exact R.lo k sz es hk
  inj := R.inj
  fz := fun k sz es hk o => obj_frozen h h2 (R.fz k sz es hk o)
  fit := fun k sz es hk => by rw [obj_bsize h h1 h2]; exact R.fit k sz es hk
  wid := R.wid
  cell := fun k sz es hk i j e c hi hj => let ⟨y, g1, g2⟩ := R.cell k sz es hk i j e c hi hj; ⟨y, obj_cell h h1 g1, g2.obj h h1 h2⟩
theorem Rel.obj {s : St} {a : Act} (R : Rel base F0 ρ s a w) (h : w.heap[l]? = some o) (h1 : o.isCells = false) (h2 : o'.isCells = false) : Rel base F0 ρ s a (w.putObj l o') :=
  ⟨R.heap.obj h h1 h2, R.tmps.mono fun c y hc => hc.obj h h1 h2, by rw [World.putObj_size]; exact R.base⟩
/-- A loop's record turns, and what is told of it. -/
theorem ext_loop (R : HRel w base F0 ρ H) {A : Nat → Prop} {k : Nat} {es : List (List C)} (hk : H[k]? = some (.own 0 es)) (hA : A k) (h : w.heap[ρ k]? = some o) (h1 : o.isCells = false) (h2 : o'.isCells = false) (e : Ex) :
    HRel (w.putObj (ρ k) o') base F0 ρ (putBlk H k (yblk e)) ∧ ExtA A w ρ H (w.putObj (ρ k) o') ρ (putBlk H k (yblk e)) := by
  have hrows : ∀ (i : Nat) x, (List.replicate (ycode e) ([] : List C))[i]? = some x → x = [] := fun i x hx => List.eq_of_mem_replicate (List.mem_of_getElem? hx)
  have X : ExtA A w ρ H (w.putObj (ρ k) o') ρ (putBlk H k (yblk e)) := by
    refine ⟨rfl, rfl, rfl, by rw [World.putObj_size]; exact Nat.le_refl _, fun b hb hn => World.putObj_heap_other fun hh => hn ⟨k, 0, es, hk, hh.symm⟩, fun b hb ⟨j, sz', es', g1, g2⟩ => ?_, fun b hb => obj_bsize h h1 h2 b, fun j B hB hno => ?_, fun j es1 hnA hB => ?_⟩
    · by_cases hj : j = k
      · subst hj; exact ⟨j, 0, es, hk, g2⟩
      · exact ⟨j, sz', es', put_back hj (by simp) g1, g2⟩
    · by_cases hj : j = k
      · subst hj
        rw [hk] at hB; cases hB
        exact ⟨_, put_self _ _ _, by simp [yblk], fun sz2 es2 he => by unfold yblk at he; cases he; exact ⟨es, rfl, rfl⟩⟩
      · exact ⟨B, put_keeps hj hB, hno, fun sz2 es2 he => ⟨es2, he, rfl⟩⟩
    · have hj : j ≠ k := fun e => hnA (e ▸ hA)
      exact ⟨put_keeps hj hB, World.putObj_heap_other fun hh => hj (R.inj j k _ _ _ _ hB hk hh)⟩
  have R1 := R.obj (o' := o') h h1 h2
  refine ⟨?_, X⟩
  refine hrel_gen R X (fun j sz' es' g => ?_) fun j j' s1 e1 s2 e2 g1 g2 g3 => ?_
  · by_cases hj : j = k
    · subst hj
      rw [put_self] at g
      unfold yblk at g
      cases g
      refine .inr ⟨(R1.lo j 0 es hk).1, (R1.lo j 0 es hk).2, R1.fz j 0 es hk, by simp, fun i x hx => by rw [hrows i x hx]; rfl, fun i q x c hx hc => by rw [hrows i x hx] at hc; simp at hc⟩
    · have g1 := put_back hj (by simp) g
      exact .inl ⟨g1, rfl, World.putObj_heap_other fun hh => hj (R.inj j k _ _ _ _ g1 hk hh)⟩
  · have own : ∀ (j s1 : Nat) (e1 : List (List C)), (putBlk H k (yblk e))[j]? = some (Blk.own s1 e1) → ∃ s2 e2, H[j]? = some (Blk.own s2 e2) := fun j s1 e1 g => by
      by_cases hj : j = k
      · subst hj; exact ⟨_, _, hk⟩
      · exact ⟨_, _, put_back hj (by simp) g⟩
    obtain ⟨_, _, q1⟩ := own j _ _ g1
    obtain ⟨_, _, q2⟩ := own j' _ _ g2
    exact R.inj j j' _ _ _ _ q1 q2 g3
theorem put_same {k : Nat} {b : Blk} (h : H[k]? = some b) : putBlk H k b = H := by
  obtain ⟨hlt, he⟩ := List.getElem?_eq_some_iff.1 h
  unfold putBlk
  rw [if_pos hlt]
  refine List.ext_getElem? fun i => ?_
  rw [List.getElem?_set]
  split
  · rename_i hi; subst hi; exact h.symm
  · rfl
end
theorem ExtA.drop {A A' : Nat → Prop} {w w' : World} {ρ ρ' : Nat → Nat} {H H' : Heap} (h : ExtA A' w ρ H w' ρ' H') (hA : ∀ k es, A' k → H[k]? = some (.own 0 es) → A k) : ExtA A w ρ H w' ρ' H' :=
  ⟨h.os, h.tape, h.output, h.size, h.same, h.own, h.bs, h.ids, fun k es hn hk => h.z k es (fun ha => hn (hA k es ha hk)) hk⟩

/-- The marks of the loops over functions that a call has run. -/
def Marks (lo : Nat) (ρ : Nat → Nat) (H : Heap) (w : World) (ds : List Deferred) : Prop :=
  ∃ bs : List Nat, ds = bs.map (fun D => { target := .collected D, args := #[] }) ∧ bs.Nodup ∧ ∀ D ∈ bs, lo ≤ D ∧ D < w.heap.size ∧ ¬ OwnB ρ H D ∧ w.heap[D]? = some (.deferred (some []))
theorem Marks.ext {A : Nat → Prop} {lo : Nat} {w w' : World} {ρ ρ' : Nat → Nat} {H H' : Heap} {ds : List Deferred} (h : Marks lo ρ H w ds) (X : ExtA A w ρ H w' ρ' H') : Marks lo ρ' H' w' ds := by
  obtain ⟨bs, h1, h2, h3⟩ := h
  refine ⟨bs, h1, h2, fun D hD => ?_⟩
  obtain ⟨g1, g2, g3, g4⟩ := h3 D hD
  exact ⟨g1, Nat.lt_of_lt_of_le g2 X.size, fun ho => g3 (X.own D g2 ho), (X.same D g2 g3).trans g4⟩

/-- The state of a call, with what is known of its loops. -/
structure Pre (lo base : Nat) (F0 : Nat → Prop) (J : Heap → (Nat → Nat) → World → Prop) (ρ : Nat → Nat) (s : St) (a : Act) (w : World) : Prop where
  r : Rel base F0 ρ s a w
  j : J s.h ρ w
  m : Marks lo ρ s.h w a.defers
  lo : lo ≤ w.heap.size
/-- What is behind a piece of code. -/
def Post (lo base : Nat) (F0 : Nat → Prop) (A : Nat → Prop) (J : Heap → (Nat → Nat) → World → Prop) (w : World) (ρ : Nat → Nat) (H : Heap) (ex : Ex) (s' : St) (e : Exit) (a' : Act) (w' : World) : Prop := e = exOf ex ∧ ∃ ρ', Pre lo base F0 J ρ' s' a' w' ∧ ExtA A w ρ H w' ρ' s'.h

theorem loop_in {lo : Nat} {A : Nat → Prop} {J : Heap → (Nat → Nat) → World → Prop} {F : Fence} {n : Nat} {P : Program} {c : Code} {f : St → Option (Ex × St)} (hbody : ∀ s ex s' a w ρ, Pre lo base F0 J ρ s a w → f s = some (ex, s') → c.wpIn F n P (Post lo base F0 A J w ρ s.h ex s') a w) :
    ∀ (m : Nat) (s s' : St) (ex : Ex) (a : Act) (w : World) (ρ : Nat → Nat), Pre lo base F0 J ρ s a w → evLoop f m s = some (ex, s') → (Code.loop c).wpIn F n P (Post lo base F0 A J w ρ s.h ex s') a w := by
  intro m s s' ex a w ρ R h b k cs hro hb hr
  have key : ∀ (m : Nat) (s : St) (a : Act) (w : World) (ρ : Nat → Nat), Pre lo base F0 J ρ s a w → evLoop f m s = some (ex, s') →
      ∃ e a' w', Post lo base F0 A J w ρ s.h ex s' e a' w' ∧ ArrivesIn (Machine.fenced P F) P (lone (b.atR a (.code c :: .inLoop c :: k)) cs w) b k cs e a' w' := by
    intro m
    induction m with
    | zero => intro s a w ρ R h; simp [evLoop] at h
    | succ m ih =>
      intro s a w ρ R h
      simp only [evLoop, Option.bind_eq_bind, Option.bind_eq_some_iff] at h
      obtain ⟨⟨e1, s1⟩, h1, h2⟩ := h
      obtain ⟨e, a1, w1, hq, harr⟩ := hbody s e1 s1 a w ρ R h1 b (.inLoop c :: k) cs hro hb hr
      obtain ⟨rfl, ρ1, R1, X1⟩ := hq
      cases e1 with
      | normal =>
        obtain ⟨e2, a2, w2, ⟨q1, ρ2, R2, X2⟩, harr2⟩ := ih s1 a1 w1 ρ1 R1 h2
        exact ⟨e2, a2, w2, ⟨q1, ρ2, R2, X1.trans X2⟩, .of_steps (StepsIn.trans harr (.one (fenced_calm hb hr rfl) stepR_inLoop)) harr2⟩
      | exit id =>
        simp only [Option.some.injEq, Prod.mk.injEq] at h2
        obtain ⟨rfl, rfl⟩ := h2
        exact ⟨_, a1, w1, ⟨rfl, ρ1, R1, X1⟩, .pass (x := .inLoop c) rfl (fun _ _ => .inl (by simp [exOf])) harr⟩
      | ret =>
        simp only [Option.some.injEq, Prod.mk.injEq] at h2
        obtain ⟨rfl, rfl⟩ := h2
        exact ⟨_, a1, w1, ⟨rfl, ρ1, R1, X1⟩, .pass (x := .inLoop c) rfl (fun _ _ => .inl (by simp [exOf])) harr⟩
  obtain ⟨e, a', w', hq, harr⟩ := key m s a w ρ R h
  exact ⟨e, a', w', hq, .of_steps (.one (fenced_calm hb hr rfl) stepR_loop) harr⟩

theorem stepR_scope {P : Program} {b : Frame} {a : Act} {k : List Item} {cs : List Frame} {w : World} {c : Code} : Go.step P (lone (b.atR a (.code (.scope c) :: k)) cs w) = .next (lone (b.atR a (.code c :: .inScope c :: k)) cs w) :=
  step_lone_go (by simp [stepG, stepG.exec, Frame.atR])
theorem stepR_inScope {P : Program} {b : Frame} {a : Act} {k : List Item} {cs : List Frame} {w : World} {c : Code} : Go.step P (lone (b.atR a (.inScope c :: k)) cs w) = .next (lone (b.atR a k) cs w) :=
  step_lone_go (by simp [stepG, stepG.exec, Frame.atR])
theorem wpIn_scope {F : Fence} {n : Nat} {P : Program} {c : Code} {Q : Exit → Act → World → Prop} {a : Act} {w : World} (h : c.wpIn F n P (fun e a w => (∀ l, e ≠ .goto l) ∧ Q e a w) a w) : (Code.scope c).wpIn F n P Q a w := by
  intro b k cs hro hb hr
  have h0 : (lone (b.atR a (.code (.scope c) :: k)) cs w).fenced P F := fenced_calm hb hr rfl
  obtain ⟨e, a₁, w₁, ⟨hng, hq⟩, harr⟩ := h b (.inScope c :: k) cs hro hb hr
  cases e with
  | normal => exact ⟨.normal, a₁, w₁, hq, .head h0 stepR_scope (StepsIn.trans harr (.one (fenced_calm hb hr rfl) stepR_inScope))⟩
  | exit id => exact ⟨.exit id, a₁, w₁, hq, fun k' hk => .head h0 stepR_scope (harr.1 k' (by simp [exitTo, hk])), fun hr' hk => let ⟨k₁, h1, h2⟩ := harr.2 hr' (by simp [exitTo, hk]); ⟨k₁, h1, .head h0 stepR_scope h2⟩⟩
  | goto l => exact absurd rfl (hng l)
  | ret => exact ⟨_, a₁, w₁, hq, .of_steps (.one h0 stepR_scope) harr⟩
  | panic ch => exact ⟨_, a₁, w₁, hq, .of_steps (.one h0 stepR_scope) harr⟩
  | outgrown => exact ⟨_, a₁, w₁, hq, .of_steps (.one h0 stepR_scope) harr⟩
end
end Ev
end Go.Proofs.YtjomjfjbpcafhaaDoor
