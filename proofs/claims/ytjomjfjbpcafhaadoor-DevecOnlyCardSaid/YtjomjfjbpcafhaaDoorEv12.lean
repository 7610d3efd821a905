/- The evaluator is right at a region that draws its order. No program is named here. -/
import Derived.Test.YtjomjfjbpcafhaaDoorEv11
namespace Go.Proofs.YtjomjfjbpcafhaaDoor
namespace Ev
open Go Go.RowKit
set_option linter.unusedVariables false
set_option linter.unusedSimpArgs false

/-- Nothing more than is there. -/
def Le (H1 H2 : Heap) : Prop := ∀ k x, getBlk H1 k = some x → getBlk H2 k = some x

theorem mask_len : ∀ (l : List Nat) (H : Heap), (mask H l).length = H.length
  | [], H => rfl
  | k :: l, H => by
    unfold mask
    simp only [List.foldl_cons]
    have := mask_len l (if k < H.length then H.set k .no else H)
    unfold mask at this
    rw [this]
    split <;> simp
theorem mask_get : ∀ (l : List Nat) (H : Heap) (k : Nat), (mask H l)[k]? = if k ∈ l ∧ k < H.length then some .no else H[k]?
  | [], H, k => by simp [mask]
  | j :: l, H, k => by
    have := mask_get l (if j < H.length then H.set j .no else H) k
    unfold mask at this ⊢
    simp only [List.foldl_cons]
    rw [this]
    have hl : (if j < H.length then H.set j Blk.no else H).length = H.length := by split <;> simp
    rw [hl]
    by_cases hk : k ∈ l ∧ k < H.length
    · rw [if_pos hk, if_pos ⟨List.mem_cons_of_mem _ hk.1, hk.2⟩]
    · rw [if_neg hk]
      by_cases hkj : k = j
      · subst hkj
        by_cases hlt : k < H.length
        · rw [if_pos hlt, if_pos ⟨List.mem_cons_self, hlt⟩]; simp [hlt]
        · rw [if_neg hlt, if_neg (fun h => hlt h.2)]
      · have e1 : ¬ (k ∈ j :: l ∧ k < H.length) := fun h => hk ⟨(List.mem_cons.1 h.1).resolve_left hkj, h.2⟩
        rw [if_neg e1]
        by_cases hj : j < H.length
        · rw [if_pos hj, List.getElem?_set, if_neg (fun h => hkj h.symm)]
        · rw [if_neg hj]
theorem mask_le (H : Heap) (l : List Nat) : Le (mask H l) H := by
  intro k x h
  unfold getBlk at *
  rw [mask_get] at h
  split at h
  · rename_i sz es hb
    split at hb
    · cases hb
    · rw [hb]; exact h
  · simp at h

theorem load_mono {H1 H2 : Heap} (hL : Le H1 H2) {agg : Bool} {sz : Nat} {d e : D} (h : load H1 agg sz d = some e) : load H2 agg sz d = some e := by
  unfold load at *
  split at h
  · simp only [Option.bind_eq_bind, Option.bind_eq_some_iff] at h ⊢
    obtain ⟨x, h1, r⟩ := h
    exact ⟨x, hL _ _ h1, r⟩
  · exact h
  · simp at h
theorem store_mono {H1 H2 : Heap} (hL : Le H1 H2) {sz : Nat} {a x : D} {e : Eff} (h : store H1 sz a x = some e) : store H2 sz a x = some e := by
  unfold store at *
  split at h
  · simp only [Option.bind_eq_bind, Option.bind_eq_some_iff] at h ⊢
    obtain ⟨cs, h1, h2⟩ := h
    refine ⟨cs, h1, ?_⟩
    split at h2
    · rename_i hl
      rw [if_pos hl]
      simp only [Option.bind_eq_some_iff] at h2 ⊢
      obtain ⟨x, h3, r⟩ := h2
      exact ⟨x, hL _ _ h3, r⟩
    · simp at h2
  · simp at h
theorem elems_mono {H1 H2 : Heap} (hL : Le H1 H2) {d : D} {e : List (List C)} (h : elems H1 d = some e) : elems H2 d = some e := by
  unfold elems at *
  split at h
  · exact h
  · simp only [Option.bind_eq_bind, Option.bind_eq_some_iff] at h ⊢
    obtain ⟨x, h1, r⟩ := h
    exact ⟨x, hL _ _ h1, r⟩
  · simp at h
theorem append_mono {H1 H2 : Heap} (hL : Le H1 H2) {nid sz : Nat} {a x : D} {e : Eff} (h : append H1 nid sz a x = some e) : append H2 nid sz a x = some e := by
  unfold Ev.append at *
  simp only [Option.bind_eq_bind, Option.bind_eq_some_iff] at h ⊢
  obtain ⟨xs, h1, h2⟩ := h
  refine ⟨xs, elems_mono hL h1, ?_⟩
  split at h2
  · exact h2
  · simp only [Option.bind_eq_some_iff] at h2 ⊢
    obtain ⟨x, h3, r⟩ := h2
    exact ⟨x, hL _ _ h3, r⟩
  · simp at h2
theorem copyD_mono {H1 H2 : Heap} (hL : Le H1 H2) {sz : Nat} {a x : D} {e : Eff} (h : copyD H1 sz a x = some e) : copyD H2 sz a x = some e := by
  unfold copyD at *
  simp only [Option.bind_eq_bind, Option.bind_eq_some_iff] at h ⊢
  obtain ⟨xs, h1, h2⟩ := h
  refine ⟨xs, elems_mono hL h1, ?_⟩
  split at h2
  · simp only [Option.bind_eq_some_iff] at h2 ⊢
    obtain ⟨x, h3, r⟩ := h2
    exact ⟨x, hL _ _ h3, r⟩
  · exact h2
  · simp at h2
theorem sem_mono {H1 H2 : Heap} (hL : Le H1 H2) {E : Env} {nid : Nat} {o : Oper} {ρ : Operand → Option D} {e : Eff} (h : sem E nid o ρ H1 = some e) : sem E nid o ρ H2 = some e := by
  unfold sem at *
  cases ho : o.op with
  | load ty a =>
    simp only [ho, Option.bind_eq_bind, Option.bind_eq_some_iff, Option.some.injEq] at h ⊢
    obtain ⟨i, h1, d, h2, d2, h3, rfl⟩ := h
    exact ⟨i, h1, d, h2, d2, load_mono hL h3, rfl⟩
  | store ty a x =>
    simp only [ho, Option.bind_eq_bind, Option.bind_eq_some_iff] at h ⊢
    obtain ⟨i, h1, d, h2, d2, h3, h4⟩ := h
    exact ⟨i, h1, d, h2, d2, h3, store_mono hL h4⟩
  | slice ty x lo hi mx =>
    simp only [ho] at h ⊢
    split at h
    · simp at h
    · rename_i hm
      rw [if_neg hm]
      simp only [Option.bind_eq_bind, Option.bind_eq_some_iff] at h ⊢
      obtain ⟨i, h1, et, h2, te, h3, d, h4, n, h5, h', h6, l, h7, h8⟩ := h
      refine ⟨i, h1, et, h2, te, h3, d, h4, n, h5, h', h6, l, h7, ?_⟩
      split at h8
      · rename_i hle
        rw [if_pos hle]
        split at h8
        · exact h8
        · simp only [Option.bind_eq_some_iff] at h8 ⊢
          obtain ⟨x, h9, r⟩ := h8
          exact ⟨x, hL _ _ h9, r⟩
        · simp at h8
      · simp at h8
  | indexAddr ty x ix =>
    simp only [ho, Option.bind_eq_bind, Option.bind_eq_some_iff] at h ⊢
    obtain ⟨i, h1, di, h2, n, h3, d, h5, h6⟩ := h
    refine ⟨i, h1, di, h2, n, h3, d, h5, ?_⟩
    split at h6
    · exact h6
    · simp only [Option.bind_eq_some_iff] at h6 ⊢
      obtain ⟨et, h7, te, h8, x, h9, r⟩ := h6
      exact ⟨et, h7, te, h8, x, hL _ _ h9, r⟩
    · exact h6
    · exact h6
    · simp at h6
  | call c =>
    simp only [ho] at h ⊢
    split at h
    · simp only [Option.bind_eq_bind, Option.bind_eq_some_iff] at h ⊢
      obtain ⟨ty, h1, i, h2, args, h3, h4⟩ := h
      refine ⟨ty, h1, i, h2, args, h3, ?_⟩
      split at h4
      · exact h4
      · simp only [Option.bind_eq_some_iff] at h4 ⊢
        obtain ⟨et, h5, te, h6, ty1, h7, t1, h8, et1, h9, h10⟩ := h4
        exact ⟨et, h5, te, h6, ty1, h7, t1, h8, et1, h9, append_mono hL h10⟩
      · simp only [Option.bind_eq_some_iff] at h4 ⊢
        obtain ⟨et, h5, te, h6, ty1, h7, t1, h8, et1, h9, h10⟩ := h4
        exact ⟨et, h5, te, h6, ty1, h7, t1, h8, et1, h9, copyD_mono hL h10⟩
      · exact h4
      · exact h4
      · simp at h4
    · simp at h
  | _ => simp only [ho] at h ⊢; exact h

theorem mapM_mono {α β : Type} {f g : α → Option β} : ∀ {l : List α} {r : List β}, (∀ x ∈ l, ∀ y, f x = some y → g x = some y) → l.mapM f = some r → l.mapM g = some r
  | [], r, _, h => by simpa using h
  | x :: l, r, hf, h => by
    simp only [List.mapM_cons, Option.bind_eq_bind, Option.bind_eq_some_iff, Option.pure_def, Option.some.injEq] at h ⊢
    obtain ⟨y, h1, r', h2, rfl⟩ := h
    exact ⟨y, hf x List.mem_cons_self y h1, r', mapM_mono (fun x hx => hf x (List.mem_cons_of_mem _ hx)) h2, rfl⟩
theorem view_mono {H1 H2 : Heap} (hL : Le H1 H2) : ∀ (d : Nat) (c : C) (x : Bool × T), view H1 d c = some x → view H2 d c = some x
  | 0, c, x, h => by cases c <;> simp only [view] at h ⊢ <;> first | exact h | simp at h
  | d + 1, c, x, h => by
    cases c with
    | own k off n =>
      simp only [view, Option.bind_eq_bind, Option.bind_eq_some_iff] at h ⊢
      obtain ⟨b, h1, es, h2, r, h3, h4⟩ := h
      exact ⟨b, hL _ _ h1, es, h2, r, mapM_mono (fun e _ y hy => mapM_mono (fun c _ z hz => view_mono hL d c z hz) hy) h3, h4⟩
    | p fr t => simpa only [view] using h
    | _ => simp [view] at h
theorem viewD_mono {H1 H2 : Heap} (hL : Le H1 H2) {d : D} {x : Bool × TD} (h : viewD H1 d = some x) : viewD H2 d = some x := by
  cases d with
  | one c =>
    simp only [viewD, Option.bind_eq_bind, Option.bind_eq_some_iff] at h ⊢
    obtain ⟨y, h1, h2⟩ := h
    exact ⟨y, view_mono hL _ _ _ h1, h2⟩
  | agg cs =>
    simp only [viewD, Option.bind_eq_bind, Option.bind_eq_some_iff] at h ⊢
    obtain ⟨r, h1, h2⟩ := h
    exact ⟨r, mapM_mono (fun c _ z hz => view_mono hL _ c z hz) h1, h2⟩
  | tup ds => simp [viewD] at h
theorem step_mono {H1 H2 : Heap} (hL : Le H1 H2) {E : Env} {cp : CallP} {ops : Array Oper} {nid : Nat} {o : Oper} {g : Tmp → Option D} {e : Eff} (h : step E cp ops nid o g H1 = some e) : step E cp ops nid o g H2 = some e := by
  unfold step at *
  simp only [Option.bind_eq_bind, Option.bind_eq_some_iff] at h ⊢
  obtain ⟨b, h1, h2⟩ := h
  refine ⟨b, h1, ?_⟩
  split at h2
  · rename_i hb
    rw [if_pos hb]
    split at h2
    · unfold pcall at *
      simp only [Option.bind_eq_bind, Option.bind_eq_some_iff] at h2 ⊢
      obtain ⟨x, h3, vs, h4, r⟩ := h2
      exact ⟨x, h3, vs, mapM_mono (fun d _ z hz => viewD_mono hL hz) h4, r⟩
    · exact sem_mono hL h2
  · rename_i hb
    rw [if_neg hb]
    exact h2

/-! applying what operations turn -/
theorem apply_get : ∀ (u : List (Nat × Blk)) (H : Heap), (∀ x ∈ u.map (·.1), x < H.length) → (apply H u).length = H.length ∧ (∀ k, k ∉ u.map (·.1) → (apply H u)[k]? = H[k]?) ∧
    ∀ k, k ∈ u.map (·.1) → ∀ H', H'.length = H.length → (apply H u)[k]? = (apply H' u)[k]?
  | [], H, h => ⟨rfl, fun k _ => rfl, fun k hk => by simp at hk⟩
  | (j, b) :: u, H, h => by
    have hj : j < H.length := h j (by simp)
    have e1 : ∀ H' : Heap, H'.length = H.length → apply H' ((j, b) :: u) = apply (H'.set j b) u := fun H' hl => by simp [apply, putBlk, hl, hj]
    obtain ⟨g1, g2, g3⟩ := apply_get u (H.set j b) (fun x hx => by simpa using h x (by simp at hx ⊢; exact .inr hx))
    refine ⟨by rw [e1 H rfl]; simpa using g1, fun k hk => ?_, fun k hk H' hl => ?_⟩
    · rw [e1 H rfl, g2 k (fun hh => hk (by simp at hh ⊢; exact .inr hh)), List.getElem?_set, if_neg (fun hh => hk (by simp [hh]))]
    · rw [e1 H rfl, e1 H' hl]
      by_cases hku : k ∈ u.map (·.1)
      · exact g3 k hku _ (by simp [hl])
      · obtain ⟨g1', g2', g3'⟩ := apply_get u (H'.set j b) (fun x hx => by simpa [hl] using h x (by simp at hx ⊢; exact .inr hx))
        rw [g2 k hku, g2' k hku]
        have hkj : k = j := by
          simp only [List.map_cons, List.mem_cons] at hk
          exact hk.resolve_right hku
        subst hkj
        simp [hj, hl]
theorem apply_comm {H : Heap} {u v : List (Nat × Blk)} (hu : ∀ x ∈ u.map (·.1), x < H.length) (hv : ∀ x ∈ v.map (·.1), x < H.length) (hd : ∀ x ∈ u.map (·.1), x ∉ v.map (·.1)) : apply (apply H u) v = apply (apply H v) u := by
  obtain ⟨u1, u2, u3⟩ := apply_get u H hu
  obtain ⟨v1, v2, v3⟩ := apply_get v H hv
  obtain ⟨a1, a2, a3⟩ := apply_get v (apply H u) (fun x hx => by rw [u1]; exact hv x hx)
  obtain ⟨b1, b2, b3⟩ := apply_get u (apply H v) (fun x hx => by rw [v1]; exact hu x hx)
  refine List.ext_getElem? fun k => ?_
  by_cases hku : k ∈ u.map (·.1)
  · rw [a2 k (hd k hku), b3 k hku H v1.symm]
  · by_cases hkv : k ∈ v.map (·.1)
    · rw [a3 k hkv H u1.symm, b2 k hku]
    · rw [a2 k hkv, b2 k hku, u2 k hku, v2 k hkv]
theorem mask_apply {H : Heap} {u : List (Nat × Blk)} {l : List Nat} (hu : ∀ x ∈ u.map (·.1), x < H.length) (hs : ∀ x ∈ u.map (·.1), x ∈ l) : mask (apply H u) l = mask H l := by
  obtain ⟨u1, u2, u3⟩ := apply_get u H hu
  refine List.ext_getElem? fun k => ?_
  rw [mask_get, mask_get, u1]
  by_cases hk : k ∈ l ∧ k < H.length
  · rw [if_pos hk, if_pos hk]
  · rw [if_neg hk, if_neg hk]
    exact u2 k fun hh => hk ⟨hs k hh, hu k hh⟩

section
variable {E : Env} {cp : CallP} {ops : Array Oper} {b : Nat} {U M : Nat → List Nat}

/-- Operations in the order of the text, each without what others turn. -/
inductive MRun (E : Env) (cp : CallP) (ops : Array Oper) (b : Nat) (U M : Nat → List Nat) : List (Nat × Oper) → St → St → Prop
  | nil (s : St) : MRun E cp ops b U M [] s s
  | cons (i : Nat) (o : Oper) (l : List (Nat × Oper)) (s s1 s' : St) (e : Eff) (h1 : step E cp ops (b + i) o (only (looks ops o) s.t) (mask s.h (M i)) = some e) (h2 : ids e = U i) (h3 : ∀ x ∈ U i, x < s.h.length) (h4 : put o s e = some s1)
      (h5 : MRun E cp ops b U M l s1 s') : MRun E cp ops b U M ((i, o) :: l) s s'

theorem evDraw2_run : ∀ (l : List Oper) (i : Nat) (s s' : St), evDraw2 E cp ops b U M i l s = some s' → MRun E cp ops b U M ((l.zipIdx i).map fun x => (x.2, x.1)) s s'
  | [], i, s, s', h => by simp only [evDraw2, Option.some.injEq] at h; subst h; exact .nil s
  | o :: l, i, s, s', h => by
    simp only [evDraw2, Option.bind_eq_bind, Option.bind_eq_some_iff] at h
    obtain ⟨e, h1, h2⟩ := h
    split at h2
    · rename_i hc
      simp only [Option.bind_eq_some_iff] at h2
      obtain ⟨s1, h3, h4⟩ := h2
      exact .cons i o _ s s1 s' e h1 hc.1 (fun x hx => by have := List.all_eq_true.1 hc.2 x hx; simpa using this) h3 (evDraw2_run l (i + 1) s1 s' h4)
    · simp at h2

/-- Two operations may change places. -/
structure Swap (ops : Array Oper) (U M : Nat → List Nat) (i j : Nat) (oi oj : Oper) : Prop where
  lj : ∀ d, oi.dst = some d → d ∉ looks ops oj
  li : ∀ d, oj.dst = some d → d ∉ looks ops oi
  dd : ∀ d, oi.dst = some d → oj.dst ≠ some d
  uu : ∀ x ∈ U i, x ∉ U j
  mi : ∀ x ∈ U j, x ∈ M i
  mj : ∀ x ∈ U i, x ∈ M j

theorem put_some {o : Oper} {s s1 : St} {e : Eff} (h : put o s e = some s1) : s1.h = apply s.h e.upd ∧ s1.t.length = s.t.length ∧ (∀ d, o.dst = some d → d < s.t.length ∧ s1.t = s.t.set d e.v) ∧ (o.dst = none → s1.t = s.t) := by
  unfold put at h
  simp only [Option.bind_eq_bind, Option.bind_eq_some_iff, Option.some.injEq] at h
  obtain ⟨t, h1, rfl⟩ := h
  unfold setT at h1
  cases ho : o.dst with
  | none => rw [ho] at h1; simp only [Option.some.injEq] at h1; exact ⟨rfl, by rw [h1], fun d hd => by simp at hd, fun _ => h1.symm⟩
  | some d =>
    rw [ho] at h1
    simp only at h1
    split at h1
    · rename_i hlt
      simp only [Option.some.injEq] at h1
      exact ⟨rfl, by rw [← h1]; simp, fun d' hd => by cases hd; exact ⟨hlt, h1.symm⟩, fun hd => by simp at hd⟩
    · simp at h1
theorem only_put {o : Oper} {s s1 : St} {e : Eff} (h : put o s e = some s1) {l : List Tmp} (hl : ∀ d, o.dst = some d → d ∉ l) : only l s1.t = only l s.t := by
  obtain ⟨_, _, h1, h2⟩ := put_some h
  funext i
  unfold only
  split
  · rename_i hi
    cases ho : o.dst with
    | none => rw [h2 ho]
    | some d =>
      rw [(h1 d ho).2, List.getElem?_set, if_neg (fun hh => hl d ho (by subst hh; simpa using hi))]
  · rfl
theorem put_can {o : Oper} {s s0 s1 : St} {e e' : Eff} (h : put o s e = some s1) (hl : s0.t.length = s.t.length) : ∃ s2, put o s0 e' = some s2 := by
  unfold put at *
  simp only [Option.bind_eq_bind, Option.bind_eq_some_iff, Option.some.injEq] at h ⊢
  obtain ⟨t, h1, _⟩ := h
  unfold setT at *
  cases ho : o.dst with
  | none => exact ⟨_, _, rfl, rfl⟩
  | some d =>
    rw [ho] at h1
    simp only at h1
    split at h1
    · rename_i hlt
      simp only [hl, hlt, if_true]
      exact ⟨_, _, rfl, rfl⟩
    · simp at h1
theorem put_comm {oi oj : Oper} {s s1 s2 r1 r2 : St} {ei ej : Eff} (hj : put oj s ej = some s1) (hi : put oi s1 ei = some s2) (gi : put oi s ei = some r1) (gj : put oj r1 ej = some r2) (hd : ∀ d, oi.dst = some d → oj.dst ≠ some d)
    (hu : ∀ x ∈ ids ej, x < s.h.length) (hv : ∀ x ∈ ids ei, x < s.h.length) (hh : ∀ x ∈ ids ej, x ∉ ids ei) : r2 = s2 := by
  obtain ⟨a1, a2, a3, a4⟩ := put_some hj
  obtain ⟨b1, b2, b3, b4⟩ := put_some hi
  obtain ⟨c1, c2, c3, c4⟩ := put_some gi
  obtain ⟨d1, d2, d3, d4⟩ := put_some gj
  have hheap : r2.h = s2.h := by rw [d1, c1, b1, a1]; exact (apply_comm hu hv hh).symm
  have htm : r2.t = s2.t := by
    cases hoi : oi.dst with
    | none =>
      cases hoj : oj.dst with
      | none => rw [d4 hoj, c4 hoi, b4 hoi, a4 hoj]
      | some d => rw [(d3 d hoj).2, c4 hoi, b4 hoi, (a3 d hoj).2]
    | some d' =>
      cases hoj : oj.dst with
      | none => rw [d4 hoj, (c3 d' hoi).2, (b3 d' hoi).2, a4 hoj]
      | some d =>
        have hne : d' ≠ d := fun hh => hd d' hoi (by rw [hoj, hh])
        rw [(d3 d hoj).2, (c3 d' hoi).2, (b3 d' hoi).2, (a3 d hoj).2, List.set_comm _ _ hne]
  cases r2; cases s2; simp_all

theorem move_front {i : Nat} {oi : Oper} {l2 : List (Nat × Oper)} : ∀ (l1 : List (Nat × Oper)) (s s' : St), (∀ x ∈ l1, Swap ops U M i x.1 oi x.2) → MRun E cp ops b U M (l1 ++ (i, oi) :: l2) s s' →
    ∃ e s1, step E cp ops (b + i) oi (only (looks ops oi) s.t) (mask s.h (M i)) = some e ∧ ids e = U i ∧ (∀ x ∈ U i, x < s.h.length) ∧ put oi s e = some s1 ∧ MRun E cp ops b U M (l1 ++ l2) s1 s'
  | [], s, s', _, h => by
    cases h with
    | cons _ _ _ _ s1 _ e h1 h2 h3 h4 h5 => exact ⟨e, s1, h1, h2, h3, h4, h5⟩
  | (j, oj) :: l1, s, s', hs, h => by
    cases h with
    | cons _ _ _ _ s1 _ ej h1 h2 h3 h4 h5 =>
      obtain ⟨ei, s2, g1, g2, g3, g4, g5⟩ := move_front l1 s1 s' (fun x hx => hs x (List.mem_cons_of_mem _ hx)) h5
      have W := hs (j, oj) List.mem_cons_self
      simp only at W
      obtain ⟨p1, p2, p3, p4⟩ := put_some h4
      have hidj : ∀ x ∈ ids ej, x < s.h.length := fun x hx => h3 x (by rw [← h2]; exact hx)
      have hlen : s1.h.length = s.h.length := by rw [p1]; exact (apply_get _ _ hidj).1
      have e1 : step E cp ops (b + i) oi (only (looks ops oi) s.t) (mask s.h (M i)) = some ei := by
        rw [← only_put h4 W.li, ← mask_apply (l := M i) hidj (fun x hx => W.mi x (by rw [← h2]; exact hx)), ← p1]
        exact g1
      obtain ⟨r1, hr1⟩ := put_can (e' := ei) g4 (s0 := s) p2.symm
      have hidi : ∀ x ∈ ids ei, x < s.h.length := fun x hx => by rw [← hlen]; exact g3 x (by rw [← g2]; exact hx)
      obtain ⟨q1, q2, q3, q4⟩ := put_some hr1
      have hlen2 : r1.h.length = s.h.length := by rw [q1]; exact (apply_get _ _ hidi).1
      have e2 : step E cp ops (b + j) oj (only (looks ops oj) r1.t) (mask r1.h (M j)) = some ej := by
        rw [only_put hr1 W.lj, q1, mask_apply (l := M j) hidi (fun x hx => W.mj x (by rw [← g2]; exact hx))]
        exact h1
      obtain ⟨r2, hr2⟩ := put_can (e' := ej) h4 (s0 := r1) q2
      have : r2 = s2 := put_comm h4 g4 hr1 hr2 W.dd hidj hidi (fun x hx hx2 => W.uu x (by rw [← g2]; exact hx2) (by rw [← h2]; exact hx))
      subst this
      exact ⟨ei, r1, e1, g2, fun x hx => by rw [← hlen]; exact g3 x hx, hr1, .cons j oj _ r1 r2 s' ej e2 h2 (fun x hx => by rw [hlen2]; exact h3 x hx) hr2 g5⟩
end
end Ev
end Go.Proofs.YtjomjfjbpcafhaaDoor
