/- What the evaluator's data are in a world: the relation, and that it stays when a call goes on. No program is named here. -/
import Derived.Deep.MidRow
import Derived.Deep.AppendSrc
import Derived.Below
import Derived.Test.YtjomjfjbpcafhaaDoorEv
import Derived.Test.YtjomjfjbpcafhaaDoorEvLD
namespace Go.Proofs.YtjomjfjbpcafhaaDoor
namespace Ev
open Go Go.RowKit
set_option linter.unusedVariables false
set_option linter.unusedSimpArgs false

def bsize (w : World) (b : Nat) : Nat :=
  match w.heap[b]? with
  | some (.cells c _ _) => c.size
  | _ => 0
theorem cell_lt {w : World} {b o : Nat} : o < bsize w b ↔ (w.cell? ⟨b, o, none⟩).isSome = true := by
  unfold bsize World.cell?
  cases h : w.heap[b]? with
  | none => simp
  | some x => cases x <;> simp
theorem blk_of_cell {w : World} {a : Addr} {v : Value} (h : w.cell? a = some v) : a.block < w.heap.size := by
  unfold World.cell? at h
  cases hb : w.heap[a.block]? with
  | none => simp [hb] at h
  | some x => exact (Array.getElem?_eq_some_iff.1 hb).1
theorem bsize_pos {w : World} {b : Nat} (h : 0 < bsize w b) : b < w.heap.size := by
  have := (cell_lt (w := w) (b := b) (o := 0)).1 h
  cases hc : w.cell? ⟨b, 0, none⟩ with
  | none => simp [hc] at this
  | some v => exact blk_of_cell hc

def OwnB (ρ : Nat → Nat) (H : Heap) (b : Nat) : Prop := ∃ k sz es, H[k]? = some (.own sz es) ∧ ρ k = b
def Fb (F0 : Nat → Prop) (ρ : Nat → Nat) (H : Heap) (b : Nat) : Prop := F0 b ∨ OwnB ρ H b
def Frs (F : Nat → Prop) (base : Nat) (fr : Bool) (b : Nat) : Prop := F b ∨ (fr = true ∧ b < base)

inductive RepT (w : World) (F : Nat → Prop) : T → Value → Prop
  | v (x : Value) (h : x.oneCell' = true) : RepT w F (.v x) x
  | s (nn : Bool) (sz : Nat) (l : List (List T)) (a : Option Addr) (c : Nat) (y : Nat → Nat → Value) (hn : nn = a.isSome) (hc : l.length ≤ c) (h0 : a = none → c = 0)
      (hl : ∀ (i : Nat) (e : List T), l[i]? = some e → e.length = sz)
      (hm : ∀ (i : Nat) (e : List T) (j : Nat) (t : T), l[i]? = some e → e[j]? = some t → ∃ b, a = some b ∧ b.block < w.heap.size ∧ ¬ F b.block ∧ w.cell? (b.add (i * sz + j)) = some (y i j))
      (hr : ∀ (i : Nat) (e : List T) (j : Nat) (t : T), l[i]? = some e → e[j]? = some t → RepT w F t (y i j)) : RepT w F (.s nn sz l) (.slice a l.length c)

inductive RepC (w : World) (base : Nat) (F : Nat → Prop) (ρ : Nat → Nat) (H : Heap) : C → Value → Prop
  | p (fr : Bool) (t : T) (y : Value) (h : RepT w (Frs F base fr) t y) : RepC w base F ρ H (.p fr t) y
  | own (k off n c : Nat) (a : Addr) (hk : ∃ B, H[k]? = some B ∧ B ≠ .no) (hn : n ≤ c)
      (ha : ∀ sz es, H[k]? = some (.own sz es) → a = ⟨ρ k, off * sz, none⟩ ∧ (off + c) * sz ≤ bsize w (ρ k)) : RepC w base F ρ H (.own k off n) (.slice (some a) n c)
  | ptr (k i j : Nat) (a : Addr) (hk : ∃ B, H[k]? = some B ∧ B ≠ .no)
      (ha : ∀ sz es, H[k]? = some (.own sz es) → a = ⟨ρ k, i * sz + j, none⟩) : RepC w base F ρ H (.ptr k i j) (.pointer (some a))
  | iptr (fr : Bool) (sz : Nat) (l : List (List T)) (i j : Nat) (a : Addr) (y : Nat → Value)
      (hm : ∀ (e : List T) (j' : Nat) (t : T), l[i]? = some e → e[j + j']? = some t → a.block < w.heap.size ∧ ¬ Frs F base fr a.block ∧ w.cell? (a.add j') = some (y j'))
      (hr : ∀ (e : List T) (j' : Nat) (t : T), l[i]? = some e → e[j + j']? = some t → RepT w (Frs F base fr) t (y j')) : RepC w base F ρ H (.iptr fr sz l i j) (.pointer (some a))
  | clo (fn : Fn) (first cap : List C) (v1 v2 : Array Value) (y1 y2 : Nat → Value) (h1 : first.length = v1.size) (h2 : cap.length = v2.size)
      (e1 : ∀ (i : Nat) c, first[i]? = some c → v1[i]? = some (y1 i)) (e2 : ∀ (i : Nat) c, cap[i]? = some c → v2[i]? = some (y2 i))
      (r1 : ∀ (i : Nat) c, first[i]? = some c → RepC w base F ρ H c (y1 i)) (r2 : ∀ (i : Nat) c, cap[i]? = some c → RepC w base F ρ H c (y2 i)) :
      RepC w base F ρ H (.clo fn first cap) (.func fn v1 v2)
  | yld (k : Nat) (y : Value) (h1 : y.oneCell' = true) (hk : ∃ B, H[k]? = some B ∧ B ≠ .no)
      (ha : ∀ sz es, H[k]? = some (.own sz es) → y = .func (.yield (ρ k)) #[] #[]) : RepC w base F ρ H (.yld k) y

def RepCs (w : World) (base : Nat) (F : Nat → Prop) (ρ : Nat → Nat) (H : Heap) (cs : List C) (ys : List Value) : Prop :=
  cs.length = ys.length ∧ ∀ (i : Nat) c, cs[i]? = some c → ∃ y, ys[i]? = some y ∧ RepC w base F ρ H c y

inductive RepD (w : World) (base : Nat) (F : Nat → Prop) (ρ : Nat → Nat) (H : Heap) : D → Value → Prop
  | one (c : C) (y : Value) (h : RepC w base F ρ H c y) : RepD w base F ρ H (.one c) y
  | agg (cs : List C) (ys : List Value) (h : RepCs w base F ρ H cs ys) : RepD w base F ρ H (.agg cs) (.agg ys.toArray)
  | tup (ds : List D) (ys : Array Value) (y : Nat → Value) (hl : ds.length = ys.size) (he : ∀ (i : Nat) d, ds[i]? = some d → ys[i]? = some (y i))
      (hr : ∀ (i : Nat) d, ds[i]? = some d → RepD w base F ρ H d (y i)) : RepD w base F ρ H (.tup ds) (.tuple ys)

/-- What a call may make of the world, and of what it owns. -/
structure ExtA (A : Nat → Prop) (w : World) (ρ : Nat → Nat) (H : Heap) (w' : World) (ρ' : Nat → Nat) (H' : Heap) : Prop where
  os : w'.os = w.os
  tape : w'.tape = w.tape
  output : w'.output = w.output
  size : w.heap.size ≤ w'.heap.size
  same : ∀ b, b < w.heap.size → ¬ OwnB ρ H b → w'.heap[b]? = w.heap[b]?
  own : ∀ b, b < w.heap.size → OwnB ρ' H' b → OwnB ρ H b
  bs : ∀ b, b < w.heap.size → bsize w' b = bsize w b
  ids : ∀ (k : Nat) B, H[k]? = some B → B ≠ .no → ∃ B', H'[k]? = some B' ∧ B' ≠ .no ∧ ∀ sz es', B' = .own sz es' → ∃ es, B = .own sz es ∧ ρ' k = ρ k
  z : ∀ (k : Nat) es, ¬ A k → H[k]? = some (.own 0 es) → H'[k]? = some (.own 0 es) ∧ w'.heap[ρ k]? = w.heap[ρ k]?
abbrev noA : Nat → Prop := fun _ => False
abbrev Ext := ExtA noA

theorem ExtA.refl {A : Nat → Prop} (w : World) (ρ : Nat → Nat) (H : Heap) : ExtA A w ρ H w ρ H :=
  ⟨rfl, rfl, rfl, Nat.le_refl _, fun _ _ _ => rfl, fun _ _ h => h, fun _ _ => rfl, fun k B h hn => ⟨B, h, hn, fun sz es' h => ⟨es', h, rfl⟩⟩, fun k es _ h => ⟨h, rfl⟩⟩
theorem ExtA.rho {A : Nat → Prop} {w w1 : World} {ρ ρ1 : Nat → Nat} {H H1 : Heap} (h : ExtA A w ρ H w1 ρ1 H1) {k sz : Nat} {es es1 : List (List C)} (h1 : H[k]? = some (.own sz es)) (h2 : ∃ sz1, H1[k]? = some (.own sz1 es1)) : ρ1 k = ρ k := by
  obtain ⟨B', g1, g2, g3⟩ := h.ids k _ h1 (by simp)
  obtain ⟨sz1, h2⟩ := h2
  rw [h2] at g1
  cases g1
  obtain ⟨_, _, r⟩ := g3 _ _ rfl
  exact r
theorem ExtA.trans {A : Nat → Prop} {w w1 w2 : World} {ρ ρ1 ρ2 : Nat → Nat} {H H1 H2 : Heap} (h : ExtA A w ρ H w1 ρ1 H1) (g : ExtA A w1 ρ1 H1 w2 ρ2 H2) : ExtA A w ρ H w2 ρ2 H2 where
  z := fun k es hA hk => by
    obtain ⟨h1, h2⟩ := h.z k es hA hk
    obtain ⟨g1, g2⟩ := g.z k es hA h1
    have hr := h.rho hk ⟨_, h1⟩
    rw [hr] at g2
    exact ⟨g1, g2.trans h2⟩
  os := g.os.trans h.os
  tape := g.tape.trans h.tape
  output := g.output.trans h.output
  size := Nat.le_trans h.size g.size
  same := fun b hb hn => (g.same b (Nat.lt_of_lt_of_le hb h.size) fun ho => hn (h.own b hb ho)).trans (h.same b hb hn)
  own := fun b hb ho => h.own b hb (g.own b (Nat.lt_of_lt_of_le hb h.size) ho)
  bs := fun b hb => (g.bs b (Nat.lt_of_lt_of_le hb h.size)).trans (h.bs b hb)
  ids := fun k B hB hn => by
    obtain ⟨B1, h1, n1, f1⟩ := h.ids k B hB hn
    obtain ⟨B2, h2, n2, f2⟩ := g.ids k B1 h1 n1
    refine ⟨B2, h2, n2, fun sz es' he => ?_⟩
    obtain ⟨es1, e1, r1⟩ := f2 sz es' he
    obtain ⟨es, e0, r0⟩ := f1 sz es1 e1
    exact ⟨es, e0, r1.trans r0⟩

theorem ExtA.weak {A A' : Nat → Prop} {w w1 : World} {ρ ρ1 : Nat → Nat} {H H1 : Heap} (hA : ∀ k, A k → A' k) (h : ExtA A w ρ H w1 ρ1 H1) : ExtA A' w ρ H w1 ρ1 H1 :=
  ⟨h.os, h.tape, h.output, h.size, h.same, h.own, h.bs, h.ids, fun k es hn hk => h.z k es (fun ha => hn (hA k ha)) hk⟩
theorem Ext.toA {A : Nat → Prop} {w w1 : World} {ρ ρ1 : Nat → Nat} {H H1 : Heap} (h : Ext w ρ H w1 ρ1 H1) : ExtA A w ρ H w1 ρ1 H1 := ExtA.weak (fun _ h => h.elim) h
theorem Ext.refl (w : World) (ρ : Nat → Nat) (H : Heap) : Ext w ρ H w ρ H := ExtA.refl w ρ H
theorem Ext.trans {w w1 w2 : World} {ρ ρ1 ρ2 : Nat → Nat} {H H1 H2 : Heap} (h : Ext w ρ H w1 ρ1 H1) (g : Ext w1 ρ1 H1 w2 ρ2 H2) : Ext w ρ H w2 ρ2 H2 := ExtA.trans h g
theorem bsize_cell {w : World} {a : Addr} {v : Value} (h : w.cell? a = some v) : 0 < bsize w a.block := by
  unfold World.cell? at h
  unfold bsize
  cases hb : w.heap[a.block]? with
  | none => simp [hb] at h
  | some x =>
    rw [hb] at h
    cases x with
    | cells c t f =>
      simp only at h ⊢
      split at h
      · simp at h
      · obtain ⟨hlt, _⟩ := Array.getElem?_eq_some_iff.1 h
        omega
    | _ => simp at h
theorem RepT.mono {w w' : World} {F F' : Nat → Prop} (hs : w.heap.size ≤ w'.heap.size) (hc : ∀ b, b < w.heap.size → 0 < bsize w b → ¬ F b → w'.heap[b]? = w.heap[b]? ∧ ¬ F' b) {t : T} {y : Value}
    (h : RepT w F t y) : RepT w' F' t y := by
  induction h with
  | v x hx => exact .v x hx
  | s nn sz l a c y hn hcap h0 hl hm hr ih =>
    refine .s nn sz l a c y hn hcap h0 hl (fun i e j t h1 h2 => ?_) fun i e j t h1 h2 => ih i e j t h1 h2
    obtain ⟨b, hb, hlt, hF, hcell⟩ := hm i e j t h1 h2
    have hbk : (b.add (i * sz + j)).block = b.block := by unfold Addr.add; split <;> rfl
    obtain ⟨g1, g2⟩ := hc _ hlt (hbk ▸ bsize_cell hcell) hF
    refine ⟨b, hb, Nat.lt_of_lt_of_le hlt hs, g2, ?_⟩
    rw [← hcell]
    unfold World.cell?
    rw [hbk, g1]

/-- What is told of a datum stays told. -/
theorem RepC.mono {w w' : World} {base : Nat} {F F' : Nat → Prop} {ρ ρ' : Nat → Nat} {H H' : Heap} (hs : w.heap.size ≤ w'.heap.size)
    (hc : ∀ b, b < w.heap.size → 0 < bsize w b → ¬ F b → w'.heap[b]? = w.heap[b]? ∧ ¬ F' b)
    (hids : ∀ (k : Nat) B, H[k]? = some B → B ≠ .no → ∃ B', H'[k]? = some B' ∧ B' ≠ .no ∧ ∀ sz es', B' = .own sz es' → ∃ es, B = .own sz es ∧ ρ' k = ρ k ∧ bsize w' (ρ k) = bsize w (ρ k)) {c : C} {y : Value}
    (h : RepC w base F ρ H c y) : RepC w' base F' ρ' H' c y := by
  have hcf : ∀ fr b, b < w.heap.size → 0 < bsize w b → ¬ Frs F base fr b → w'.heap[b]? = w.heap[b]? ∧ ¬ Frs F' base fr b := by
    intro fr b hb hpos hn
    obtain ⟨g1, g2⟩ := hc b hb hpos fun hf => hn (.inl hf)
    refine ⟨g1, fun hf => ?_⟩
    rcases hf with hf | hf
    · exact g2 hf
    · exact hn (.inr hf)
  induction h with
  | p fr t y h => exact .p fr t y (h.mono hs (hcf fr))
  | own k off n c a hk hn ha =>
    obtain ⟨B, hB, hno⟩ := hk
    obtain ⟨B', hB', hno', hf⟩ := hids k B hB hno
    refine .own k off n c a ⟨B', hB', hno'⟩ hn fun sz es h => ?_
    rw [hB'] at h
    obtain ⟨es0, e0, e1, e2⟩ := hf sz es (Option.some.inj h)
    obtain ⟨g1, g2⟩ := ha sz es0 (by rw [hB, e0])
    rw [e1, e2]
    exact ⟨g1, g2⟩
  | ptr k i j a hk ha =>
    obtain ⟨B, hB, hno⟩ := hk
    obtain ⟨B', hB', hno', hf⟩ := hids k B hB hno
    refine .ptr k i j a ⟨B', hB', hno'⟩ fun sz es h => ?_
    rw [hB'] at h
    obtain ⟨es0, e0, e1, e2⟩ := hf sz es (Option.some.inj h)
    rw [e1]
    exact ha sz es0 (by rw [hB, e0])
  | iptr fr sz l i j a y hm hr =>
    refine .iptr fr sz l i j a y (fun e j' t h1 h2 => ?_) fun e j' t h1 h2 => (hr e j' t h1 h2).mono hs (hcf fr)
    obtain ⟨hlt, hF, hcell⟩ := hm e j' t h1 h2
    have hbk : (a.add j').block = a.block := by unfold Addr.add; split <;> rfl
    obtain ⟨g1, g2⟩ := hcf fr _ hlt (hbk ▸ bsize_cell hcell) hF
    refine ⟨Nat.lt_of_lt_of_le hlt hs, g2, ?_⟩
    rw [← hcell]
    unfold World.cell?
    rw [hbk, g1]
  | clo fn first cap v1 v2 y1 y2 h1 h2 e1 e2 r1 r2 i1 i2 => exact .clo fn first cap v1 v2 y1 y2 h1 h2 e1 e2 i1 i2
  | yld k y h1 hk ha =>
    obtain ⟨B, hB, hno⟩ := hk
    obtain ⟨B', hB', hno', hf⟩ := hids k B hB hno
    refine .yld k y h1 ⟨B', hB', hno'⟩ fun sz es h => ?_
    rw [hB'] at h
    obtain ⟨es0, e0, e1, e2⟩ := hf sz es (Option.some.inj h)
    rw [e1]
    exact ha sz es0 (by rw [hB, e0])

theorem RepC.ext {w w' : World} {base : Nat} {F0 : Nat → Prop} {ρ ρ' : Nat → Nat} {H H' : Heap} {c : C} {y : Value} (hlo : ∀ (k : Nat) sz es, H[k]? = some (.own sz es) → ρ k < w.heap.size)
    {A : Nat → Prop} (g : ExtA A w ρ H w' ρ' H') (h : RepC w base (Fb F0 ρ H) ρ H c y) : RepC w' base (Fb F0 ρ' H') ρ' H' c y :=
  h.mono g.size (fun b hb _ hn => ⟨g.same b hb fun ho => hn (.inr ho), fun hf => hf.elim (fun h => hn (.inl h)) fun h => hn (.inr (g.own b hb h))⟩)
    fun k B hB hno => by
      obtain ⟨B', h1, h2, h3⟩ := g.ids k B hB hno
      refine ⟨B', h1, h2, fun sz es' he => ?_⟩
      obtain ⟨es, e0, e1⟩ := h3 sz es' he
      exact ⟨es, e0, e1, g.bs _ (hlo k sz es (by rw [hB, e0]))⟩
theorem RepCs.mono {w w' : World} {base base' : Nat} {F F' : Nat → Prop} {ρ ρ' : Nat → Nat} {H H' : Heap} {cs : List C} {ys : List Value}
    (hh : ∀ c y, RepC w base F ρ H c y → RepC w' base' F' ρ' H' c y) (h : RepCs w base F ρ H cs ys) : RepCs w' base' F' ρ' H' cs ys :=
  ⟨h.1, fun i c hi => let ⟨y, h1, h2⟩ := h.2 i c hi; ⟨y, h1, hh c y h2⟩⟩
theorem RepD.mono {w w' : World} {base base' : Nat} {F F' : Nat → Prop} {ρ ρ' : Nat → Nat} {H H' : Heap} {d : D} {y : Value}
    (hh : ∀ c y, RepC w base F ρ H c y → RepC w' base' F' ρ' H' c y) (h : RepD w base F ρ H d y) : RepD w' base' F' ρ' H' d y := by
  induction h with
  | one c y h => exact .one c y (hh c y h)
  | agg cs ys h => exact .agg cs ys (h.mono hh)
  | tup ds ys y hl he hr ih => exact .tup ds ys y hl he ih

/-- What a call owns, in a world. -/
structure HRel (w : World) (base : Nat) (F0 : Nat → Prop) (ρ : Nat → Nat) (H : Heap) : Prop where
  lo : ∀ (k : Nat) sz es, H[k]? = some (.own sz es) → base ≤ ρ k ∧ ρ k < w.heap.size
  inj : ∀ (k k' : Nat) sz es sz' es', H[k]? = some (.own sz es) → H[k']? = some (.own sz' es') → ρ k = ρ k' → k = k'
  fz : ∀ (k : Nat) sz es, H[k]? = some (.own sz es) → ∀ o, w.frozen? ⟨ρ k, o, none⟩ = false
  fit : ∀ (k : Nat) sz es, H[k]? = some (.own sz es) → es.length * sz ≤ bsize w (ρ k)
  wid : ∀ (k : Nat) sz es, H[k]? = some (.own sz es) → ∀ (i : Nat) e, es[i]? = some e → e.length = sz
  cell : ∀ (k : Nat) sz es, H[k]? = some (.own sz es) → ∀ (i j : Nat) e c, es[i]? = some e → e[j]? = some c → ∃ y, w.cell? ⟨ρ k, i * sz + j, none⟩ = some y ∧ RepC w base (Fb F0 ρ H) ρ H c y
  laid : LD base w

theorem RepT.one {w : World} {F : Nat → Prop} {t : T} {y : Value} (h : RepT w F t y) : y.oneCell' = true := by
  cases h with
  | v x hx => exact hx
  | s => rfl
theorem RepC.one {w : World} {base : Nat} {F : Nat → Prop} {ρ : Nat → Nat} {H : Heap} {c : C} {y : Value} (h : RepC w base F ρ H c y) : y.oneCell' = true := by
  cases h with
  | p fr t y h => exact h.one
  | own => rfl
  | ptr => rfl
  | iptr => rfl
  | clo => rfl
  | yld k y h1 => exact h1
end Ev
end Go.Proofs.YtjomjfjbpcafhaaDoor
