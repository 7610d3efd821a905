/- The evaluator is right at code, also in rounds of loops over functions. No program is named here. -/
import Derived.RangeFuncNested
import Derived.Test.YtjomjfjbpcafhaaDoorEv14
namespace Go.Proofs.YtjomjfjbpcafhaaDoor
namespace Ev
open Go Go.RowKit
set_option linter.unusedVariables false
set_option linter.unusedSimpArgs false

/-- A function that is ranged over, with rounds. -/
def RfOk (P : Program) (rf : RunF) : Prop := ∀ y f args H H', rf y f args H = some H' → Enters P f ∧
  ∀ (base : Nat) (F0 : Nat → Prop) (A B : Nat → Prop) (J : Heap → (Nat → Nat) → World → Prop), YOk P base F0 y A B J → (∀ b, F0 b → b < base) → ∀ (w : World) (ρ : Nat → Nat) (ys : List Value), base ≤ w.heap.size → HRel w base F0 ρ H → J H ρ w → args.length = ys.length →
    (∀ (i : Nat) d, args[i]? = some d → ∃ y, ys[i]? = some y ∧ RepD w base (Fb F0 ρ H) ρ H d y) →
    Calls P f ys.toArray w fun e w' => ∃ y ρ', e = .returned y ∧ HRel w' base F0 ρ' H' ∧ ExtA A w ρ H w' ρ' H' ∧ J H' ρ' w'

def jmp : Ex → Option Code
  | .normal => none
  | .ret => some .ret
  | .exit id => some (.exit id)
theorem yout_ycode (e : Ex) : yout (List.replicate (ycode e) []) = e := by
  cases e with
  | normal => rfl
  | ret => rfl
  | exit id => simp [ycode, yout, List.replicate_succ]
theorem ycode_nil {e : Ex} (h : (List.replicate (ycode e) [] : List (List C)) = []) : e = .normal := by
  cases e <;> simp [ycode] at h ⊢
theorem yblk_normal : yblk .normal = .own 0 [] := rfl

section
variable {base : Nat} {F0 : Nat → Prop}

theorem setPs_rel {w : World} {F : Nat → Prop} {ρ : Nat → Nat} {H : Heap} : ∀ (ps : List Tmp) (ds : List D) (ys : List Value) (t : List D) (tm : Array Value), ds.length = ys.length → ps.length = ds.length →
    (∀ (i : Nat) d, ds[i]? = some d → ∃ y, ys[i]? = some y ∧ RepD w base F ρ H d y) → (t.length = tm.size ∧ ∀ (i : Nat) d, t[i]? = some d → ∃ y, tm[i]? = some y ∧ RepD w base F ρ H d y) →
    ((setPs t ps ds).length = ((ps.zip ys).foldl (fun tm (p, v) => tm.setIfInBounds p v) tm).size ∧ ∀ (i : Nat) d, (setPs t ps ds)[i]? = some d → ∃ y, ((ps.zip ys).foldl (fun tm (p, v) => tm.setIfInBounds p v) tm)[i]? = some y ∧ RepD w base F ρ H d y)
  | [], ds, ys, t, tm, _, _, _, h => by simpa [setPs] using h
  | p :: ps, [], ys, t, tm, _, hl, _, _ => by simp at hl
  | p :: ps, d :: ds, [], t, tm, hl, _, _, _ => by simp at hl
  | p :: ps, d :: ds, y :: ys, t, tm, h1, h2, h3, h => by
    simp only [setPs, List.zip_cons_cons, List.foldl_cons]
    refine setPs_rel ps ds ys _ _ (by simpa using h1) (by simpa using h2) (fun i d' hi => by simpa using h3 (i + 1) d' (by simpa using hi)) ⟨by simp [h.1], fun i d' hi => ?_⟩
    obtain ⟨y0, g1, g2⟩ := h3 0 d rfl
    simp at g1
    subst g1
    rw [List.getElem?_set] at hi
    split at hi
    · rename_i hpi
      subst hpi
      split at hi
      · rename_i hlt
        cases hi
        exact ⟨y, by simp [Array.getElem?_setIfInBounds, ← h.1, hlt], g2⟩
      · simp at hi
    · rename_i hpi
      obtain ⟨y1, q1, q2⟩ := h.2 i d' hi
      exact ⟨y1, by rw [Array.getElem?_setIfInBounds_ne hpi]; exact q1, q2⟩

theorem Marks.obj {lo : Nat} {w : World} {ρ : Nat → Nat} {H : Heap} {ds : List Deferred} {l : Nat} {rc : Loop} (h : Marks lo ρ H w ds) (hl : w.heap[l]? = some (.loop rc)) (o' : Obj) : Marks lo ρ H (w.putObj l o') ds := by
  obtain ⟨bs, h1, h2, h3⟩ := h
  refine ⟨bs, h1, h2, fun D hD => ?_⟩
  obtain ⟨g1, g2, g3, g4⟩ := h3 D hD
  exact ⟨g1, by rw [World.putObj_size]; exact g2, g3, by rw [World.putObj_heap_other (fun e => by rw [e, hl] at g4; simp at g4)]; exact g4⟩
theorem reps_append {R : D → Value → Prop} {a b : List D} {x y : List Value} (h1 : a.length = x.length ∧ ∀ (i : Nat) d, a[i]? = some d → ∃ v, x[i]? = some v ∧ R d v) (h2 : b.length = y.length ∧ ∀ (i : Nat) d, b[i]? = some d → ∃ v, y[i]? = some v ∧ R d v) :
    (a ++ b).length = (x ++ y).length ∧ ∀ (i : Nat) d, (a ++ b)[i]? = some d → ∃ v, (x ++ y)[i]? = some v ∧ R d v := by
  refine ⟨by simp [h1.1, h2.1], fun i d hi => ?_⟩
  rw [List.getElem?_append] at hi
  rw [List.getElem?_append, ← h1.1]
  split at hi
  · rename_i hlt; rw [if_pos hlt]; exact h1.2 i d hi
  · rename_i hlt; rw [if_neg hlt]; exact h2.2 _ d hi
theorem RelT.pair {w : World} {F : Nat → Prop} {ρ : Nat → Nat} {H : Heap} {t : List D} {a : Act} (h : RelT w base F ρ H t a) : t.length = a.tmps.size ∧ ∀ (i : Nat) d, t[i]? = some d → ∃ y, a.tmps[i]? = some y ∧ RepD w base F ρ H d y := h.2
end

section
variable {E : Env} {cp : CallP} {cf : CallG} {base : Nat} {F0 : Nat → Prop}

theorem evC_in (hE : TiOk E.P E.ti) (hcp : CpOk E.P cp) (hcf : CfOk E.P cf.f) (hrf : RfOk E.P cf.r) (hm : E.P.follows .mixedOrders = true) (hF : ∀ b, F0 b → b < base) (m lo : Nat) : ∀ (c : Code) (A B : Nat → Prop) (J : Heap → (Nat → Nat) → World → Prop) (hY : YOk E.P base F0 cf.y A B J) (r : Option Nat) (n : Nat)
    (hro : ∀ l, r = some l → ∀ H ρ w, J H ρ w → ∃ rec, w.heap[l]? = some (.loop rec)) (s : St) (ex : Ex) (s' : St) (a : Act) (w : World) (ρ : Nat → Nat),
    Pre lo base F0 J ρ s a w → evC E cp cf m c s = some (ex, s') → c.wpIn (FR r) n E.P (Post lo base F0 A J w ρ s.h ex s') a w := by
  intro c
  induction c with
  | skip =>
    intro A B J hY r n hro s ex s' a w ρ R h
    simp only [evC, Option.some.injEq, Prod.mk.injEq] at h
    obtain ⟨rfl, rfl⟩ := h
    exact wpIn_skip ⟨rfl, ρ, R, ExtA.refl _ _ _⟩
  | region id ops draw =>
    intro A B J hY r n hro s ex s' a w ρ R h
    simp only [evC] at h
    cases draw with
    | true =>
      simp only [if_true, Option.map_eq_some_iff, Prod.mk.injEq] at h
      obtain ⟨s1, h1, rfl, rfl⟩ := h
      cases hc : cutAt ops with
      | some q =>
        rw [hc] at h1
        exact draw_cut hE hcp hcf hY hm hF hc R.r R.j h1 (by rintro ⟨_, _, h, _⟩; cases h) fun a' w' ρ' R' X' J' D' => ⟨rfl, ρ', ⟨R', J', by rw [D']; exact R.m.ext X', Nat.le_trans R.lo X'.size⟩, X'⟩
      | none =>
      rw [hc] at h1
      exact draw_in hE hcp hm hF R.r h1 fun a' w' ρ' R' X' D' => ⟨rfl, ρ', ⟨R', hY.keep _ _ _ _ _ _ R.r.heap R.j X'.toA R'.heap, by rw [D']; exact R.m.ext X', Nat.le_trans R.lo X'.size⟩, X'.toA⟩
    | false =>
      simp only [Bool.false_eq_true, if_false, Option.map_eq_some_iff, Prod.mk.injEq] at h
      obtain ⟨s1, h1, rfl, rfl⟩ := h
      refine wpIn_region (evOps_in hE hcp hcf hY hF (by rintro ⟨_, _, h, _⟩; cases h) ops.toList _ s s1 a w ρ ⟨by simp, fun i n hi => ?_⟩ R.r R.j h1 fun a' w' ρ' R' X' J' D' => ⟨rfl, ρ', ⟨R', J', by rw [D']; exact R.m.ext X', Nat.le_trans R.lo X'.size⟩, X'⟩)
      have hlt := (List.getElem?_eq_some_iff.1 hi).1
      simp at hlt
      rw [List.getElem?_range hlt] at hi
      cases hi
      simp
  | seq x y ihx ihy =>
    intro A B J hY r n hro s ex s' a w ρ R h
    simp only [evC, Option.bind_eq_bind, Option.bind_eq_some_iff] at h
    obtain ⟨⟨e1, s1⟩, h1, h2⟩ := h
    refine wpIn_seq (wpIn_mono (ihx A B J hY r n hro s e1 s1 a w ρ R h1) fun e a' w' ⟨he, ρ', R', X'⟩ => ?_)
    subst he
    cases e1 with
    | normal =>
      exact wpIn_mono (ihy A B J hY r n hro s1 ex s' a' w' ρ' R' h2) fun e2 a2 w2 ⟨he2, ρ2, R2, X2⟩ => ⟨he2, ρ2, R2, X'.trans X2⟩
    | exit id =>
      simp only [Option.some.injEq, Prod.mk.injEq] at h2
      obtain ⟨rfl, rfl⟩ := h2
      exact ⟨rfl, ρ', R', X'⟩
    | ret =>
      simp only [Option.some.injEq, Prod.mk.injEq] at h2
      obtain ⟨rfl, rfl⟩ := h2
      exact ⟨rfl, ρ', R', X'⟩
  | cond c x y ihx ihy =>
    intro A B J hY r n hro s ex s' a w ρ R h
    simp only [evC, Option.bind_eq_bind, Option.bind_eq_some_iff] at h
    obtain ⟨d, h1, t, h2, h3⟩ := h
    have hc := asBool_rep (R.r.tmps.g.opnd h1) h2
    refine wpIn_cond hc ?_
    cases t with
    | true => simp only [if_true] at h3 ⊢; exact ihx A B J hY r n hro s ex s' a w ρ R h3
    | false => simp only [Bool.false_eq_true, if_false] at h3 ⊢; exact ihy A B J hY r n hro s ex s' a w ρ R h3
  | block id c ih =>
    intro A B J hY r n hro s ex s' a w ρ R h
    simp only [evC, Option.bind_eq_bind, Option.bind_eq_some_iff, Option.some.injEq, Prod.mk.injEq] at h
    obtain ⟨⟨e1, s1⟩, h1, h2, rfl⟩ := h
    refine wpIn_block (wpIn_mono (ih A B J hY r n hro s e1 s1 a w ρ R h1) fun e a' w' ⟨he, ρ', R', X'⟩ => ?_)
    subst he
    simp only at h2
    cases e1 with
    | normal => simp at h2; subst h2; exact ⟨rfl, ρ', R', X'⟩
    | ret => simp at h2; subst h2; exact ⟨rfl, ρ', R', X'⟩
    | exit id' =>
      simp only [exOf, Exit.inBlock]
      by_cases hid : id' = id
      · subst hid; simp at h2; subst h2; simp only [if_true]; exact ⟨rfl, ρ', R', X'⟩
      · simp [hid] at h2; subst h2; rw [if_neg hid]; exact ⟨rfl, ρ', R', X'⟩
  | loop c ih =>
    intro A B J hY r n hro s ex s' a w ρ R h
    simp only [evC] at h
    exact loop_in (f := evC E cp cf m c) (fun s ex s' a w ρ R h => ih A B J hY r n hro s ex s' a w ρ R h) m s s' ex a w ρ R h
  | exit id =>
    intro A B J hY r n hro s ex s' a w ρ R h
    simp only [evC, Option.some.injEq, Prod.mk.injEq] at h
    obtain ⟨rfl, rfl⟩ := h
    exact wpIn_exit ⟨rfl, ρ, R, ExtA.refl _ _ _⟩
  | ret =>
    intro A B J hY r n hro s ex s' a w ρ R h
    simp only [evC, Option.some.injEq, Prod.mk.injEq] at h
    obtain ⟨rfl, rfl⟩ := h
    exact wpIn_ret ⟨rfl, ρ, R, ExtA.refl _ _ _⟩
  | rangeFunc g ps asg body iha ihb =>
    intro A B J hY r n hro s ex s' a w ρ R h
    simp only [evC, Option.bind_eq_bind, Option.bind_eq_some_iff] at h
    obtain ⟨dg, h1, h2⟩ := h
    split at h2
    · rename_i f first cap
      simp only [Option.bind_eq_some_iff] at h2
      obtain ⟨Hf, h3, ⟨sz, es⟩, h4, h5⟩ := h2
      split at h5
      · rename_i hz
        simp only at hz
        subst hz
        simp only [Option.some.injEq, Prod.mk.injEq] at h5
        obtain ⟨rfl, rfl⟩ := h5
        obtain ⟨hent, hcall⟩ := hrf _ _ _ _ _ h3
        generalize hk : s.h.length = k at *
        have hnone : s.h[k]? = none := List.getElem?_eq_none (by omega)
        have hBk : ¬ B k := fun hb => by obtain ⟨es0, q⟩ := hY.lt _ _ _ k R.j hb; rw [hnone] at q; simp at q
        have hAk : ¬ A k := fun ha => hBk (hY.sub k ha)
        -- the function
        obtain ⟨v1, v2, hv, l1, l2, e1, e2⟩ : ∃ v1 v2 : Array Value, a.eval g = .func (.func f) v1 v2 ∧ first.length = v1.size ∧ cap.length = v2.size ∧
            (∀ (i : Nat) c, first[i]? = some c → ∃ y, v1[i]? = some y ∧ RepC w base (Fb F0 ρ s.h) ρ s.h c y) ∧ (∀ (i : Nat) c, cap[i]? = some c → ∃ y, v2[i]? = some y ∧ RepC w base (Fb F0 ρ s.h) ρ s.h c y) := by
          have hg := R.r.tmps.g.opnd h1
          generalize a.eval g = vg at hg
          cases hg with
          | one c y hc => cases hc with | clo fn first cap v1 v2 y1 y2 l1 l2 e1 e2 r1 r2 => exact ⟨v1, v2, rfl, l1, l2, fun i c hi => ⟨_, e1 i c hi, r1 i c hi⟩, fun i c hi => ⟨_, e2 i c hi, r2 i c hi⟩⟩
        -- the round, whatever the record
        have main : ∀ (fnid D0 l : Nat) (w1 : World) (mark : List Deferred), Below w.heap.size w w1 → w.heap.size ≤ l → l < w1.heap.size →
            w1.heap[l]? = some (.loop { state := .ready, pending := none, fn := fnid, tmps := a.tmps, params := ps, assign := asg, body := body, defers := D0 }) →
            (∀ (ρ' : Nat → Nat) (H' : Heap) (w' : World), (∀ b, b < w1.heap.size → b ≠ l → OwnB ρ' H' b → OwnB ρ s.h b) → (∀ b, w.heap.size ≤ b → b < w1.heap.size → b ≠ l → w'.heap[b]? = w1.heap[b]?) → w1.heap.size ≤ w'.heap.size → ExtA A w ρ s.h w' ρ' H' → Marks lo ρ' H' w' (mark ++ a.defers)) →
            CallsIn (FR r) (n - 1) E.P f (v1 ++ #[.func (.yield l) #[] #[]] ++ v2) w1 (rangePost (FR r) n E.P l (Post lo base F0 A J w ρ s.h (yout es) { t := s.t, h := Hf }) { a with defers := mark ++ a.defers }) := by
          intro fnid D0 l w1 mark hbl hl1 hl2 hrec0 hmark
          obtain ⟨rec, hrec⟩ : ∃ rec : LoopState → Option Code → Loop, rec = fun st pe => { state := st, pending := pe, fn := fnid, tmps := a.tmps, params := ps, assign := asg, body := body, defers := D0 } := ⟨_, rfl⟩
          have hr0 : w1.heap[l]? = some (.loop (rec .ready none)) := by rw [hrec]; exact hrec0
          -- the loop's block
          have hnl : w1.frozen? ⟨l, 0, none⟩ = false := by unfold World.frozen?; simp only [hr0]
          have hz0 : (([] : List (List T)).map (·.map (pC true))) = [] := rfl
          obtain ⟨R1, X1⟩ := ext_own (nid := k) (b := l) (c := 0) (sz := 0) (l := []) R.r.heap R.r.base hbl (fun B hB => by rw [hnone] at hB; simp at hB) (Nat.le_refl _) hl1 hl2 (by simp) (fun o => by unfold World.frozen?; simp only [hr0]) (fun i e hi => by simp at hi) (fun i j e t hi => by simp at hi)
          rw [hz0] at R1 X1
          generalize hρ1 : (fun j => if j = k then l else ρ j) = ρ1 at R1 X1
          have hρk : ρ1 k = l := by rw [← hρ1]; simp
          -- what is known of the loop
          let J2 : Heap → (Nat → Nat) → World → Prop := fun H ρ w => (J H ρ w ∧ lo ≤ w.heap.size) ∧ ρ k = l ∧ RelT w base (Fb F0 ρ H) ρ H s.t a ∧ ∃ e, H[k]? = some (yblk e) ∧ w.heap[l]? = some (.loop (rec (if e = .normal then .ready else .done) (jmp e)))
          let J3 : LoopState → Heap → (Nat → Nat) → World → Prop := fun st H ρ w => J H ρ w ∧ ρ k = l ∧ H[k]? = some (.own 0 []) ∧ w.heap[l]? = some (.loop (rec st none))
          have hobj : ∀ st pe, (Obj.loop (rec st pe)).isCells = false := fun st pe => rfl
          have hJne : ∀ {H : Heap} {ρ : Nat → Nat} {w : World} {es0 : List (List C)}, HRel w base F0 ρ H → J H ρ w → ρ k = l → H[k]? = some (.own 0 es0) → ∀ j, B j → ρ j ≠ l := fun RR jj hl hkk j hj he => by
            obtain ⟨es1, q⟩ := hY.lt _ _ _ j jj hj
            have := RR.inj j k _ _ _ _ q hkk (he.trans hl.symm)
            exact hBk (this ▸ hj)
          have hY3 : ∀ st, YOk E.P base F0 cf.y A (fun j => B j ∨ j = k) (J3 st) := fun st => by
            refine ⟨fun j hj => .inl (hY.sub j hj), fun H ρ w j ⟨j1, j2, j3, j4⟩ hj => ?_, fun H ρ w H' ρ' w' RR ⟨j1, j2, j3, j4⟩ X RR' => ?_, fun H ρ w l' o o' RR ⟨j1, j2, j3, j4⟩ ho c1 c2 hne => ?_, fun kk args H e H1 hh => ?_⟩
            · rcases hj with hj | rfl
              · exact hY.lt _ _ _ j j1 hj
              · exact ⟨_, j3⟩
            · obtain ⟨z1, z2⟩ := X.z k [] (fun hn => hn (.inr rfl)) j3
              refine ⟨hY.keep _ _ _ _ _ _ RR j1 (X.weak fun q hq hb => hq (.inl hb)) RR', (X.rho j3 ⟨_, z1⟩).trans j2, z1, ?_⟩
              rw [j2] at z2; rw [z2]; exact j4
            · refine ⟨hY.obj _ _ _ _ _ _ RR j1 ho c1 c2 fun q hq => hne q (.inl hq), j2, j3, ?_⟩
              rw [World.putObj_heap_other (fun e => hne k (.inr rfl) (j2.trans e))]; exact j4
            · obtain ⟨a1, a2⟩ := hY.round _ _ _ _ _ hh
              refine ⟨a1, fun w ρ ys RR hb ⟨j1, j2, j3, j4⟩ hkk hlen hargs => ?_⟩
              obtain ⟨ff, tm, as, bo, q1, q2⟩ := a2 w ρ ys RR hb j1 hkk hlen hargs
              refine ⟨ff, tm, as, bo, q1, fun n => (q2 n).mono fun e' w' ⟨he', ρ', g1, g2, g3⟩ => ⟨he', ρ', g1, g2, ?_⟩⟩
              obtain ⟨z1, z2⟩ := g2.z k [] hAk j3
              refine ⟨g3, (g2.rho j3 ⟨_, z1⟩).trans j2, z1, ?_⟩
              rw [j2] at z2; rw [z2]; exact j4
          have hrnd : ∀ st l', some l = some l' → ∀ H ρ w, J3 st H ρ w → ∃ rc, w.heap[l']? = some (.loop rc) := fun st l' he H ρ w ⟨_, _, _, j4⟩ => by cases he; exact ⟨_, j4⟩
          have hY2 : YOk E.P base F0 (fun j args h => if j = k ∧ args.length = ps.toList.length then do
                let (e, s1) ← evC E cp cf m asg { t := setPs s.t ps.toList args, h := h }
                match e with
                | .normal => do
                  let (e, s2) ← evC E cp cf m body s1
                  some (e, s2.h)
                | _ => none
              else none) (fun j => A j ∨ j = k) (fun j => B j ∨ j = k) J2 := by
            refine ⟨fun j hj => hj.imp (hY.sub j) id, fun H ρ w j ⟨⟨j1, jl⟩, j2, j3, e, j4, j5⟩ hj => ?_, fun H ρ w H' ρ' w' RR ⟨⟨j1, jl⟩, j2, j3, e, j4, j5⟩ X RR' => ?_, fun H ρ w l' o o' RR ⟨⟨j1, jl⟩, j2, j3, e, j4, j5⟩ ho c1 c2 hne => ?_, fun kk args H ex H1 hh => ?_⟩
            · rcases hj with hj | rfl
              · exact hY.lt _ _ _ j j1 hj
              · exact ⟨_, j4⟩
            · obtain ⟨z1, z2⟩ := X.z k _ (fun hn => hn (.inr rfl)) j4
              refine ⟨⟨hY.keep _ _ _ _ _ _ RR j1 (X.weak fun q hq hb => hq (.inl hb)) RR', Nat.le_trans jl X.size⟩, (X.rho j4 ⟨_, z1⟩).trans j2, j3.mono fun c y hc => hc.ext RR.lt X, e, z1, ?_⟩
              rw [j2] at z2; rw [z2]; exact j5
            · refine ⟨⟨hY.obj _ _ _ _ _ _ RR j1 ho c1 c2 fun q hq => hne q (.inl hq), by rw [World.putObj_size]; exact jl⟩, j2, j3.mono fun c y hc => hc.obj ho c1 c2, e, j4, ?_⟩
              rw [World.putObj_heap_other (fun e => hne k (.inr rfl) (j2.trans e))]; exact j5
            · simp only at hh
              split at hh
              · rename_i hcond
                obtain ⟨hkk0, hlenp⟩ := hcond
                rw [hkk0]
                simp only [Option.bind_eq_bind, Option.bind_eq_some_iff] at hh
                obtain ⟨⟨e1, s1⟩, h6, h7⟩ := hh
                refine ⟨.inr rfl, fun w ρ ys RR hb ⟨⟨j1, jl⟩, j2, j3, e, j4, j5⟩ hkk hlen hargs => ?_⟩
                cases e1 with
                | exit id => simp at h7
                | ret => simp at h7
                | normal =>
                  simp only [Option.bind_eq_some_iff, Option.some.injEq, Prod.mk.injEq] at h7
                  obtain ⟨⟨e2, s2⟩, h8, rfl, rfl⟩ := h7
                  have he0 : e = .normal := by
                    rw [hkk] at j4
                    have := Option.some.inj j4
                    unfold yblk at this
                    injection this with _ this
                    exact ycode_nil this.symm
                  subst he0
                  simp only [if_true, jmp] at j5
                  rw [j2]
                  have hsz : ys.toArray.size = (rec .ready none).params.size := by rw [hrec]; simp [← hlen, hlenp]
                  refine ⟨_, _, _, _, run_yield j5 hsz, fun n' => ?_⟩
                  have hrecp : (rec .ready none).tmps = a.tmps ∧ (rec .ready none).params = ps ∧ (rec .ready none).assign = asg ∧ (rec .ready none).body = body := by rw [hrec]; exact ⟨rfl, rfl, rfl, rfl⟩
                  rw [hrecp.1, hrecp.2.1, hrecp.2.2.1, hrecp.2.2.2]
                  refine roundIn_of_wpIn trivial ?_
                  have hfold : (ps.zip ys.toArray).foldl (fun tm (p, v) => tm.setIfInBounds p v) a.tmps = (ps.toList.zip ys).foldl (fun tm (p, v) => tm.setIfInBounds p v) a.tmps := by
                    rw [← Array.foldl_toList]; simp
                  have hT := setPs_rel ps.toList args ys s.t a.tmps hlen hlenp.symm hargs j3.pair
                  have R3 : Rel base F0 ρ { t := setPs s.t ps.toList args, h := H } { tmps := (ps.toList.zip ys).foldl (fun tm (p, v) => tm.setIfInBounds p v) a.tmps, defers := [] } w := ⟨RR, ⟨rfl, hT⟩, hb⟩
                  have hloW : w.heap.size ≤ w.heap.size := Nat.le_refl _
                  have P3 : Pre lo base F0 (J3 .ready) ρ { t := setPs s.t ps.toList args, h := H } { tmps := (ps.toList.zip ys).foldl (fun tm (p, v) => tm.setIfInBounds p v) a.tmps, defers := [] } w := ⟨R3, ⟨j1, j2, hkk, j5⟩, ⟨[], rfl, List.nodup_nil, fun D hD => by simp at hD⟩, jl⟩
                  rw [hfold]
                  refine wpIn_mono (F := FR (some l)) (iha A _ (J3 .ready) (hY3 .ready) (some l) n' (hrnd .ready) _ _ _ _ _ _ P3 h6) fun e' a1 w1' ⟨he', ρ1', P1, X1'⟩ => ?_
                  subst he'
                  obtain ⟨q1, q2, q3, q4⟩ := P1.j
                  have hbusy : ({ rec .ready none with state := .busy } : Loop) = rec .busy none := by rw [hrec]
                  refine ⟨_, run_beginRound q4 (by rw [hrec]), ?_⟩
                  rw [hbusy]
                  have hne := hJne P1.r.heap q1 q2 q3
                  obtain ⟨_, Xb⟩ := ext_loop (A := fun j => A j ∨ j = k) (o' := .loop (rec .busy none)) P1.r.heap q3 (.inr rfl) (by rw [q2]; exact q4) rfl rfl .normal
                  rw [yblk_normal, put_same q3, q2] at Xb
                  have P2 : Pre lo base F0 (J3 .busy) ρ1' s1 a1 (w1'.putObj l (.loop (rec .busy none))) := ⟨P1.r.obj q4 rfl rfl, ⟨hY.obj _ _ _ _ _ _ P1.r.heap q1 q4 rfl rfl hne, q2, q3, World.putObj_heap_same (Array.getElem?_eq_some_iff.1 q4).1⟩, P1.m.obj q4 _, by rw [World.putObj_size]; exact P1.lo⟩
                  refine wpIn_mono (F := FR (some l)) (ihb A _ (J3 .busy) (hY3 .busy) (some l) n' (hrnd .busy) _ _ _ _ _ _ P2 h8) fun e' a3 w3 ⟨he', ρ3, P4, X3⟩ => ?_
                  subst he'
                  obtain ⟨u1, u2, u3, u4⟩ := P4.j
                  have hend : ∀ jj, (Instr.endRound l jj).run E.P w3 = .ok (.bool jj.isNone) (w3.putObj l (.loop (rec (if jj.isNone then .ready else .done) jj))) := fun jj => by have := run_endRound (P := E.P) jj u4; rw [hrec] at this ⊢; exact this
                  have hlt3 := (Array.getElem?_eq_some_iff.1 u4).1
                  have fin : ∀ (st : LoopState), st = (if e2 = .normal then .ready else .done) → (Ending.returned (.bool (e2 == .normal)) = .returned (.bool (e2 == .normal)) ∧ ∃ ρ', HRel (w3.putObj l (.loop (rec st (jmp e2)))) base F0 ρ' (putBlk s2.h k (yblk e2)) ∧ ExtA (fun j => A j ∨ j = k) w ρ H (w3.putObj l (.loop (rec st (jmp e2)))) ρ' (putBlk s2.h k (yblk e2)) ∧ J2 (putBlk s2.h k (yblk e2)) ρ' (w3.putObj l (.loop (rec st (jmp e2))))) := fun st hst => by
                    obtain ⟨R4, X4⟩ := ext_loop (A := fun j => A j ∨ j = k) (o' := .loop (rec st (jmp e2))) P4.r.heap u3 (.inr rfl) (by rw [u2]; exact u4) rfl rfl e2
                    obtain ⟨_, X5⟩ := ext_loop (A := fun j => ¬ B j) (o' := .loop (rec st (jmp e2))) P4.r.heap u3 hBk (by rw [u2]; exact u4) rfl rfl e2
                    rw [u2] at R4 X4 X5
                    have Xt := ((X1'.weak (A' := fun j => A j ∨ j = k) fun _ => .inl).trans Xb).trans ((X3.weak (A' := fun j => A j ∨ j = k) fun _ => .inl).trans X4)
                    exact ⟨rfl, ρ3, R4, Xt, ⟨hY.keep _ _ _ _ _ _ P4.r.heap u1 X5 R4, by rw [World.putObj_size]; exact P4.lo⟩, u2, j3.mono fun c y hc => hc.ext RR.lt Xt, e2, put_self _ _ _, by rw [← hst]; exact World.putObj_heap_same hlt3⟩
                  cases e2 with
                  | normal => exact ⟨_, _, hend none, fin .ready rfl⟩
                  | ret => exact ⟨_, _, hend (some .ret), fin .done rfl⟩
                  | exit id => exact ⟨_, _, hend (some (.exit id)), fin .done rfl⟩
              · simp at hh
          have hown1 : ∀ b, b ≠ l → OwnB ρ1 (putBlk s.h k (.own 0 [])) b → OwnB ρ s.h b := fun b hbl ⟨j, sz', es', g1, g2⟩ => by
            by_cases hj : j = k
            · subst hj; exact absurd (g2.symm.trans hρk) hbl
            · exact ⟨j, sz', es', put_back hj (by simp) g1, by rw [← g2, ← hρ1]; simp [hj]⟩
          have hJ2 : J2 (putBlk s.h k (.own 0 [])) ρ1 w1 := ⟨⟨hY.keep _ _ _ _ _ _ R.r.heap R.j X1.toA R1, Nat.le_trans R.lo X1.size⟩, hρk, R.r.tmps.mono fun c y hc => hc.ext R.r.heap.lt X1, .normal, put_self _ _ _, hr0⟩
          have harr : v1 ++ #[.func (.yield l) #[] #[]] ++ v2 = (v1.toList ++ [Value.func (.yield l) #[] #[]] ++ v2.toList).toArray := by apply Array.ext'; simp
          rw [harr]
          have hargs : (first.map D.one ++ [D.one (.yld k)] ++ cap.map D.one).length = (v1.toList ++ [Value.func (.yield l) #[] #[]] ++ v2.toList).length ∧ ∀ (i : Nat) d, (first.map D.one ++ [D.one (.yld k)] ++ cap.map D.one)[i]? = some d → ∃ y, (v1.toList ++ [Value.func (.yield l) #[] #[]] ++ v2.toList)[i]? = some y ∧ RepD w1 base (Fb F0 ρ1 (putBlk s.h k (.own 0 []))) ρ1 (putBlk s.h k (.own 0 [])) d y := by
            refine reps_append (reps_append ⟨by simp [l1], fun i d hi => ?_⟩ ⟨rfl, fun i d hi => ?_⟩) ⟨by simp [l2], fun i d hi => ?_⟩
            · simp only [List.getElem?_map, Option.map_eq_some_iff] at hi
              obtain ⟨c, c1, rfl⟩ := hi
              obtain ⟨y, y1, y2⟩ := e1 i c c1
              exact ⟨y, by simpa using y1, .one _ _ (y2.ext R.r.heap.lt X1)⟩
            · cases i with
              | zero => simp at hi; subst hi; exact ⟨_, rfl, .one _ _ (.yld k _ rfl ⟨_, put_self _ _ _, by simp⟩ fun sz es _ => by rw [hρk])⟩
              | succ i => simp at hi
            · simp only [List.getElem?_map, Option.map_eq_some_iff] at hi
              obtain ⟨c, c1, rfl⟩ := hi
              obtain ⟨y, y1, y2⟩ := e2 i c c1
              exact ⟨y, by simpa using y1, .one _ _ (y2.ext R.r.heap.lt X1)⟩
          have hc := hcall base F0 _ _ J2 hY2 hF w1 ρ1 _ (Nat.le_trans R.r.base X1.size) R1 hJ2 hargs.1 hargs.2
          refine CallsIn.mono (F := FR r) (callsIn_wide.2 hc) fun e' w3 ⟨y, ρ', he', g1, g2, g3⟩ => ?_
          subst he'
          obtain ⟨⟨u1, ul⟩, u2, u3, e, u4, u5⟩ := g3
          have hes : yout es = e := by
            have := getBlk_some h4
            rw [this] at u4
            have := Option.some.inj u4
            unfold yblk at this
            injection this with _ this
            rw [this, yout_ycode]
          rw [hes]
          have hnb : (rec (if e = .normal then .ready else .done) (jmp e)).state ≠ .busy := by rw [hrec]; simp only; split <;> simp
          have hend : (Instr.endLoop l).run E.P w3 = .ok (jmp e) (w3.putObj l (.loop (rec .exhausted (jmp e)))) := by
            have := run_endLoop (P := E.P) u5 hnb
            rw [hrec] at this ⊢
            exact this
          have hkk : Hf[k]? = some (.own 0 (List.replicate (ycode e) [])) := u4
          obtain ⟨_, X4⟩ := ext_loop (A := fun j => A j ∨ j = k) (o' := .loop (rec .exhausted (jmp e))) g1 hkk (.inr rfl) (by rw [u2]; exact u5) rfl rfl e
          rw [put_same u4, u2] at X4
          have Xt : ExtA A w ρ s.h (w3.putObj l (.loop (rec .exhausted (jmp e)))) ρ' Hf := ((X1.toA.trans g2).trans X4).drop fun j es0 hj hje => hj.elim id fun hj => by rw [hj, hnone] at hje; simp at hje
          have Xs := g2.trans X4
          have fin : ∃ ρ', Pre lo base F0 J ρ' { t := s.t, h := Hf } { a with defers := mark ++ a.defers } (w3.putObj l (.loop (rec .exhausted (jmp e)))) ∧ ExtA A w ρ s.h (w3.putObj l (.loop (rec .exhausted (jmp e)))) ρ' Hf := by
            refine ⟨ρ', ⟨⟨g1.obj u5 rfl rfl, ⟨rfl, (u3.mono fun c y hc => hc.obj u5 rfl rfl).2⟩, ?_⟩, hY.obj _ _ _ _ _ _ g1 u1 u5 rfl rfl (hJne g1 u1 u2 hkk), ?_, ?_⟩, Xt⟩
            · rw [World.putObj_size]; exact Nat.le_trans (Nat.le_trans R.r.base X1.size) g2.size
            · refine hmark ρ' Hf _ (fun b hb hbl ho => hown1 b hbl (Xs.own b hb ho)) (fun b hb1 hb2 hbl => Xs.same b hb2 fun ho => ?_) Xs.size Xt
              obtain ⟨j, sz', es', q1, q2⟩ := hown1 b hbl ho
              have := R.r.heap.lt j _ _ q1
              omega
            · rw [World.putObj_size]; exact ul
          refine ⟨_, _, hend, ?_⟩
          cases e with
          | normal => exact ⟨rfl, fin⟩
          | ret => exact wpIn_ret ⟨rfl, fin⟩
          | exit id => exact wpIn_exit ⟨rfl, fin⟩
        refine wpIn_rangeFunc fun fnid _ => ?_
        have hres : ∀ (l : Nat) (w1 : World), (resolve a.eval (rangeCall g l) 0).run E.P w1 = .ok { target := .fn (.func f) v2, args := v1 ++ #[.func (.yield l) #[] #[]] } w1 := fun l w1 => by
          unfold resolve
          simp only [hv, Deferred.ofValue]
          simp [Act.eval]
        have hinv : ∀ (l : Nat) (w1 : World), (invoke (.fn (.func f) v2) (v1 ++ #[.func (.yield l) #[] #[]])).run E.P w1 = .ok (.enter f (v1 ++ #[.func (.yield l) #[] #[]] ++ v2)) w1 := fun l w1 => enter_run hent _ w1
        cases r with
        | none =>
          have hs1 : ((w.alloc (.deferred (some []))).alloc (.loop { state := .ready, pending := none, fn := fnid, tmps := a.tmps, params := ps, assign := asg, body := body, defers := w.heap.size })).heap.size = w.heap.size + 2 := by simp
          have hD : ((w.alloc (.deferred (some []))).alloc (.loop { state := .ready, pending := none, fn := fnid, tmps := a.tmps, params := ps, assign := asg, body := body, defers := w.heap.size })).heap[w.heap.size]? = some (.deferred (some [])) := (Below.heap_alloc _ _ _ (by simp)).trans (World.alloc_heap_new w _)
          refine ⟨w.heap.size + 1, _, _, _, _, f, _, _, run_enterLoop_outer _ _ _ _ _, hres _ _, fun _ _ => trivial, hinv _ _, fun hd => by simp [Fence.wide] at hd, ?_⟩
          refine main fnid w.heap.size (w.heap.size + 1) _ _ (((Below.refl _ w).alloc (Nat.le_refl _) _).alloc (by simp) _) (by omega) (by omega) ?_ fun ρ' H' w' c1 c2 c3 X => ?_
          · have := World.alloc_heap_new (w.alloc (.deferred (some []))) (.loop { state := .ready, pending := none, fn := fnid, tmps := a.tmps, params := ps, assign := asg, body := body, defers := w.heap.size })
            rwa [World.size_alloc] at this
          · obtain ⟨bs, b1, b2, b3⟩ := R.m
            have hm2 := R.m.ext X
            refine ⟨w.heap.size :: bs, by rw [b1]; rfl, List.nodup_cons.2 ⟨fun hin => by have := (b3 _ hin).2.1; omega, b2⟩, fun D hD' => ?_⟩
            rcases List.mem_cons.1 hD' with rfl | hin
            · refine ⟨R.lo, by omega, fun ho => ?_, (c2 _ (Nat.le_refl _) (by omega) (by omega)).trans hD⟩
              obtain ⟨j, sz', es', q1, q2⟩ := c1 _ (by omega) (by omega) ho
              have := R.r.heap.lt j _ _ q1
              omega
            · obtain ⟨d1, d2, d3, d4⟩ := b3 D hin
              exact ⟨d1, Nat.lt_of_lt_of_le d2 X.size, fun ho => d3 (X.own D d2 ho), (X.same D d2 d3).trans d4⟩
        | some l0 =>
          obtain ⟨rc, hrc⟩ := hro l0 rfl _ _ _ R.j
          refine ⟨w.heap.size, _, _, _, _, f, _, _, run_enterLoop_inner hrc _ _ _ _ _, hres _ _, fun _ _ => trivial, hinv _ _, fun hd => by simp [Fence.wide] at hd, ?_⟩
          refine main fnid rc.defers w.heap.size _ _ ((Below.refl _ w).alloc (Nat.le_refl _) _) (Nat.le_refl _) (by simp) (World.alloc_heap_new w _) fun ρ' H' w' c1 c2 c3 X => R.m.ext X
      · simp at h5
    · simp at h2
  | scope c ih =>
    intro A B J hY r n hro s ex s' a w ρ R h
    simp only [evC] at h
    refine wpIn_scope (wpIn_mono (ih A B J hY r n hro s ex s' a w ρ R h) fun e a' w' ⟨he, ρ', R', X'⟩ => ?_)
    subst he
    exact ⟨fun l => by cases ex <;> simp [exOf], rfl, ρ', R', X'⟩
  | label l =>
    intro A B J hY r n hro s ex s' a w ρ R h
    simp only [evC, Option.some.injEq, Prod.mk.injEq] at h
    obtain ⟨rfl, rfl⟩ := h
    exact wpIn_label ⟨rfl, ρ, R, ExtA.refl _ _ _⟩
  | goto l => intro A B J hY r n hro s ex s' a w ρ R h; simp [evC] at h
  | refuse why => intro A B J hY r n hro s ex s' a w ρ R h; simp [evC] at h
end
end Ev
end Go.Proofs.YtjomjfjbpcafhaaDoor
