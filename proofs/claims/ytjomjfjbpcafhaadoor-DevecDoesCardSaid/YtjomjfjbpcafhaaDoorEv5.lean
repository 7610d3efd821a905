/- The evaluator is right at loads, stores and addresses. No program is named here. -/
import Derived.Test.YtjomjfjbpcafhaaDoorEv4
namespace Go.Proofs.YtjomjfjbpcafhaaDoor
namespace Ev
open Go Go.RowKit
set_option linter.unusedVariables false
set_option linter.unusedSimpArgs false

theorem exists_list {α β : Type} [Inhabited β] {Q : Nat → α → β → Prop} (cs : List α) (h : ∀ (i : Nat) c, cs[i]? = some c → ∃ y, Q i c y) : ∃ ys : List β, ys.length = cs.length ∧ ∀ (i : Nat) c, cs[i]? = some c → ∃ y, ys[i]? = some y ∧ Q i c y := by
  have h' : ∀ i : Nat, ∃ y : β, ∀ c, cs[i]? = some c → Q i c y := fun i => by
    cases hc : cs[i]? with
    | none => exact ⟨default, fun c hh => by cases hh⟩
    | some c => obtain ⟨y, hy⟩ := h i c hc; exact ⟨y, fun c' hh => by cases hh; exact hy⟩
  refine ⟨(List.range cs.length).map fun i => (h' i).choose, by simp, fun i c hi => ?_⟩
  have hl := (List.getElem?_eq_some_iff.1 hi).1
  exact ⟨_, by simp [hl], (h' i).choose_spec c hi⟩
theorem cut_some {α : Type} {l r : List α} {i n : Nat} (h : cut l i n = some r) : r.length = n ∧ i + n ≤ l.length ∧ ∀ j, j < n → r[j]? = l[i + j]? := by
  unfold cut at h
  split at h
  · rename_i hle
    simp only [Option.some.injEq] at h
    subst h
    refine ⟨by simp; omega, hle, fun j hj => ?_⟩
    rw [List.getElem?_take, if_pos hj, List.getElem?_drop]
  · simp at h
theorem ofCells_len {agg : Bool} {cs : List C} {d : D} (h : ofCells agg cs = some d) : if agg then d = .agg cs else ∃ c, cs = [c] ∧ d = .one c := by
  unfold ofCells at h
  cases agg
  · simp only [Bool.false_eq_true, if_false] at h ⊢
    split at h
    · simp only [Option.some.injEq] at h; exact ⟨_, rfl, h.symm⟩
    · simp at h
  · simpa using h.symm
theorem add_add (a : Addr) (m n : Nat) : (a.add m).add n = a.add (m + n) := by
  unfold Addr.add
  split <;> split <;> simp_all <;> omega
theorem getBlk_some {H : Heap} {k sz : Nat} {es : List (List C)} (h : getBlk H k = some (sz, es)) : H[k]? = some (.own sz es) := by
  unfold getBlk at h
  split at h
  · simp only [Option.some.injEq, Prod.mk.injEq] at h; obtain ⟨rfl, rfl⟩ := h; assumption
  · simp at h

section
variable {P : Program} {ti : TypeId → Option TI}

theorem loadAt_run (h : TiOk P ti) {ty : TypeId} {i : TI} (ht : ti ty = some i) (w : World) (a : Addr) (ys : List Value) (hc : ∀ (j : Nat) v, ys[j]? = some v → w.cell? (a.add j) = some v)
    (hl : ys.length = if isAggD i.desc then i.size else 1) : (Instr.loadAt ty (.pointer (some a))).run P w = .ok (if isAggD i.desc then .agg ys.toArray else ys.headD undef) w := by
  have h1 := agg_run h ht w
  have h2 := size_run h ht w
  cases hd : isAggD i.desc
  · rw [hd] at h1 hl
    simp only [Bool.false_eq_true, if_false] at hl
    match ys, hl with
    | [y], _ =>
      have h3 := hc 0 y rfl
      rw [Addr.add_zero'] at h3
      simp [Instr.loadAt, Instr.sureAddr, loadVar, h1, load, Sem.run, h3]
  · rw [hd] at h1 hl
    simp only [if_true] at hl
    have h3 := run_loadCells_list (P := P) w a ys hc
    rw [hl] at h3
    simp [Instr.loadAt, Instr.sureAddr, loadVar, h1, h2, h3]

variable {w : World} {base : Nat} {F0 : Nat → Prop} {ρ : Nat → Nat} {H : Heap}

/-- Cells that lie behind an address, as a load yields them. -/
theorem load_cells {F : Nat → Prop} {i : TI} {cs : List C} {d : D} {ys : List Value} (ho : ofCells (isAggD i.desc) cs = some d) (hr : RepCs w base F ρ H cs ys) :
    RepD w base F ρ H d (if isAggD i.desc then .agg ys.toArray else ys.headD undef) := by
  have := ofCells_len ho
  cases hd : isAggD i.desc
  · rw [hd] at this
    simp only [Bool.false_eq_true, if_false] at this ⊢
    obtain ⟨c, rfl, rfl⟩ := this
    obtain ⟨y, h1, h2⟩ := hr.2 0 c rfl
    match ys, hr.1, h1 with
    | [z], _, h1 => simp at h1; subst h1; exact .one _ _ h2
  · rw [hd] at this
    simp only [if_true] at this ⊢
    subst this
    exact .agg _ _ hr

theorem load_ok (h : TiOk P ti) {ty : TypeId} {i : TI} (ht : ti ty = some i) (R : HRel w base F0 ρ H) {d e : D} {y : Value} (hy : RepD w base (Fb F0 ρ H) ρ H d y)
    (hl : load H (isAggD i.desc) (if isAggD i.desc then i.size else 1) d = some e) : ∃ z, (Instr.loadAt ty y).run P w = .ok z w ∧ RepD w base (Fb F0 ρ H) ρ H e z := by
  unfold load at hl
  split at hl
  · rename_i k ii jj
    simp only [Option.bind_eq_bind, Option.bind_eq_some_iff] at hl
    obtain ⟨⟨bz, es⟩, h1, row, h2, cs, h3, h4⟩ := hl
    have hb := getBlk_some h1
    obtain ⟨c1, c2, c3⟩ := cut_some h3
    cases hy with
    | one c y hy =>
      cases hy with
      | ptr k i' j' a hk ha =>
        have ha' := ha _ _ hb
        obtain ⟨ys, y1, y2⟩ := exists_list (Q := fun n c y => w.cell? ⟨ρ k, ii * bz + (jj + n), none⟩ = some y ∧ RepC w base (Fb F0 ρ H) ρ H c y) cs (fun n c hn => by
          have hlt := (List.getElem?_eq_some_iff.1 hn).1
          rw [c1] at hlt
          rw [c3 n hlt] at hn
          exact R.cell k bz es hb ii (jj + n) row c h2 hn)
        have hrep : RepCs w base (Fb F0 ρ H) ρ H cs ys := ⟨y1.symm, fun n c hn => let ⟨y, g1, g2, g3⟩ := y2 n c hn; ⟨y, g1, g3⟩⟩
        refine ⟨_, loadAt_run h ht w a ys (fun n v hv => ?_) (by rw [y1, c1]), load_cells h4 hrep⟩
        have hlt := (List.getElem?_eq_some_iff.1 hv).1
        obtain ⟨y, g1, g2, g3⟩ := y2 n cs[n] (by simp [← y1, hlt])
        rw [hv] at g1
        cases g1
        rw [ha', Addr.add_mid, Nat.add_assoc]
        exact g2
  · rename_i fr sz l ii jj
    simp only [Option.bind_eq_bind, Option.bind_eq_some_iff] at hl
    obtain ⟨row, h2, cs, h3, h4⟩ := hl
    obtain ⟨c1, c2, c3⟩ := cut_some h3
    cases hy with
    | one c y hy =>
      cases hy with
      | iptr fr sz l i' j' a yy hm hr =>
        obtain ⟨ys, y1, y2⟩ := exists_list (Q := fun n c y => w.cell? (a.add n) = some y ∧ RepC w base (Fb F0 ρ H) ρ H c y) cs (fun n c hn => by
          have hlt := (List.getElem?_eq_some_iff.1 hn).1
          rw [c1] at hlt
          rw [c3 n hlt, List.getElem?_map, Option.map_eq_some_iff] at hn
          obtain ⟨t, g1, rfl⟩ := hn
          obtain ⟨e1, e2, e3⟩ := hm row n t h2 g1
          exact ⟨yy n, e3, rep_pC (.p fr t _ (hr row n t h2 g1))⟩)
        have hrep : RepCs w base (Fb F0 ρ H) ρ H cs ys := ⟨y1.symm, fun n c hn => let ⟨y, g1, g2, g3⟩ := y2 n c hn; ⟨y, g1, g3⟩⟩
        refine ⟨_, loadAt_run h ht w a ys (fun n v hv => ?_) (by rw [y1, c1]), load_cells h4 hrep⟩
        have hlt := (List.getElem?_eq_some_iff.1 hv).1
        obtain ⟨y, g1, g2, g3⟩ := y2 n cs[n] (by simp [← y1, hlt])
        rw [hv] at g1
        cases g1
        exact g2
  · simp at hl

theorem setCells_frame (b : Nat) : ∀ (vs : List Value) (o : Nat) (w : World), (w.setCells b o vs).heap.size = w.heap.size ∧ (w.setCells b o vs).os = w.os ∧ (w.setCells b o vs).tape = w.tape ∧ (w.setCells b o vs).output = w.output ∧
    (∀ k, k ≠ b → (w.setCells b o vs).heap[k]? = w.heap[k]?) ∧ bsize (w.setCells b o vs) b = bsize w b
  | [], o, w => ⟨rfl, rfl, rfl, rfl, fun _ _ => rfl, rfl⟩
  | v :: r, o, w => by
    obtain ⟨h1, h2, h3, h4, h5, h6⟩ := setCells_frame b r (o + 1) (w.setCell ⟨b, o, none⟩ v)
    refine ⟨h1.trans (by simp [World.setCell]), h2, h3, h4, fun k hk => (h5 k hk).trans (Below.heap_setCell _ _ _ _ hk), h6.trans ?_⟩
    unfold bsize World.setCell
    simp only [Array.getElem?_modify]
    cases hb : w.heap[b]? with
    | none => simp
    | some x => cases x <;> simp

def Good (P : Program) (base : Nat) (F0 : Nat → Prop) (w : World) (ρ : Nat → Nat) (H : Heap) (s : Sem Value) (e : Eff) : Prop :=
  ∃ y w' ρ', s.run P w = .ok y w' ∧ HRel w' base F0 ρ' (apply H e.upd) ∧ Ext w ρ H w' ρ' (apply H e.upd) ∧ RepD w' base (Fb F0 ρ' (apply H e.upd)) ρ' (apply H e.upd) e.v y
theorem good_quiet (R : HRel w base F0 ρ H) {s : Sem Value} {d : D} {y : Value} (h1 : s.run P w = .ok y w) (h2 : RepD w base (Fb F0 ρ H) ρ H d y) : Good P base F0 w ρ H s { v := d } :=
  ⟨y, w, ρ, h1, R, Ext.refl _ _ _, h2⟩

theorem cell_div {sz i j i' j' : Nat} (hj : j < sz) (hj' : j' < sz) (h : i * sz + j = i' * sz + j') : i = i' ∧ j = j' := by
  have e1 : (i * sz + j) / sz = i := by rw [Nat.mul_comm, Nat.mul_add_div (by omega)]; simp [Nat.div_eq_of_lt hj]
  have e2 : (i' * sz + j') / sz = i' := by rw [Nat.mul_comm, Nat.mul_add_div (by omega)]; simp [Nat.div_eq_of_lt hj']
  have : i = i' := by rw [← e1, h, e2]
  subst this
  exact ⟨rfl, by omega⟩
theorem patch_some {α : Type} {l r xs : List α} {i : Nat} (h : patch l i xs = some r) : i + xs.length ≤ l.length ∧ r.length = l.length ∧ ∀ j, r[j]? = if i ≤ j ∧ j < i + xs.length then xs[j - i]? else l[j]? := by
  unfold patch at h
  split at h
  · rename_i hle
    simp only [Option.some.injEq] at h
    subst h
    refine ⟨hle, by simp; omega, fun j => ?_⟩
    rw [List.append_assoc]
    by_cases h1 : j < i
    · rw [List.getElem?_append_left (by simp; omega), List.getElem?_take, if_pos h1, if_neg (by omega)]
    · rw [List.getElem?_append_right (by simp; omega)]
      simp only [List.length_take, show min i l.length = i by omega]
      by_cases h2 : j < i + xs.length
      · rw [List.getElem?_append_left (by omega), if_pos ⟨by omega, h2⟩]
      · rw [List.getElem?_append_right (by omega), if_neg (by omega), List.getElem?_drop, show i + xs.length + (j - i - xs.length) = j by omega]
  · simp at h

theorem store_ok (h : TiOk P ti) {ty : TypeId} {i : TI} (ht : ti ty = some i) (R : HRel w base F0 ρ H) {da dx : D} {a x : Value} (ha : RepD w base (Fb F0 ρ H) ρ H da a) (hx : RepD w base (Fb F0 ρ H) ρ H dx x) {e : Eff}
    (hs : store H i.size da dx = some e) : Good P base F0 w ρ H (do Instr.storeAt ty a x; pure undef) e := by
  unfold store at hs
  split at hs
  · rename_i k ii jj
    simp only [Option.bind_eq_bind, Option.bind_eq_some_iff] at hs
    obtain ⟨cs, h1, h2⟩ := hs
    split at h2
    · rename_i hlen
      simp only [Option.bind_eq_some_iff, Option.some.injEq] at h2
      obtain ⟨⟨bz, es⟩, h2, row, h3, row', h4, rfl⟩ := h2
      have hb := getBlk_some h2
      obtain ⟨p1, p2, p3⟩ := patch_some h4
      obtain ⟨hrx, hone⟩ := dcells_rep hx h1
      have hwid := R.wid k bz es hb ii row h3
      cases ha with
      | one c y ha =>
        cases ha with
        | ptr k i' j' a hk haa =>
          have haa' := haa _ _ hb
          subst haa'
          have hcell : ∀ n, n < cs.length → (w.cell? ⟨ρ k, ii * bz + jj + n, none⟩).isSome = true := fun n hn => by
            obtain ⟨c, hc⟩ : ∃ c, row[jj + n]? = some c := ⟨row[jj + n], by simp⟩
            obtain ⟨y, g1, _⟩ := R.cell k bz es hb ii (jj + n) row c h3 hc
            rw [Nat.add_assoc, g1]; rfl
          have hl2 : x.cells.toList.length = cs.length := hrx.1.symm
          have hst := run_storeCells_cells (P := P) (ρ k) (ii * bz + jj) x.cells.toList 0 w (fun n hn => by simpa using hcell n (by omega)) (fun n hn => R.fz k bz es hb _) hone
          simp only [Nat.add_zero] at hst
          have hsize := size_run h ht w
          have hrun : (do Instr.storeAt ty (.pointer (some ⟨ρ k, ii * bz + jj, none⟩)) x; pure undef : Sem Value).run P w = .ok undef (w.setCells (ρ k) (ii * bz + jj) x.cells.toList) := by
            have : x.cells.size = i.size := by rw [← hlen, ← hl2]; simp
            simp [Instr.storeAt, Instr.sureAddr, storeVar, hsize, this, hst]
          obtain ⟨f1, f2, f3, f4, f5, f6⟩ := setCells_frame (ρ k) x.cells.toList (ii * bz + jj) w
          have hT := hrel_turn R (es' := es.set ii row') hb f1 f2 f3 f4 f5 f6 (fun o => by rw [World.frozen?_setCells]; exact R.fz k bz es hb o) (by simp) (fun hz => by
              have hr0 : row = [] := List.length_eq_zero_iff.1 (by omega)
              have hr1 : row' = [] := List.length_eq_zero_iff.1 (by omega)
              have hx0 : x.cells.toList = [] := List.length_eq_zero_iff.1 (by omega)
              subst hr0 hr1
              rw [hx0]
              obtain ⟨hlt, h5⟩ := List.getElem?_eq_some_iff.1 h3
              refine ⟨List.ext_getElem? fun n => ?_, rfl⟩
              rw [List.getElem?_set]
              split
              · rename_i he
                subst he
                exact h3.symm
              · rfl)
            (fun n e hn => by
              rw [List.getElem?_set] at hn
              split at hn
              · split at hn
                · cases hn; rw [p2]; exact hwid
                · simp at hn
              · exact R.wid k bz es hb n e hn)
            (fun n m e c hn hm => by
              by_cases hni : n = ii
              · subst hni
                rw [List.getElem?_set] at hn
                simp only [if_true] at hn
                split at hn
                · cases hn
                  rw [p3 m] at hm
                  split at hm
                  · rename_i hr
                    obtain ⟨y, g1, g2⟩ := hrx.2 (m - jj) c hm
                    refine ⟨y, ?_, g2⟩
                    have hlt := (List.getElem?_eq_some_iff.1 g1).1
                    have := World.cell?_setCells_in (ρ k) x.cells.toList (n * bz + jj) w (fun q hq => hcell q (by omega)) (m - jj) hlt
                    rw [show n * bz + jj + (m - jj) = n * bz + m by omega] at this
                    rw [this, ← g1]
                    simp
                  · rename_i hr
                    obtain ⟨y, g1, g2⟩ := R.cell k bz es hb n m row c h3 hm
                    refine ⟨y, ?_, g2⟩
                    rw [World.cell?_setCells_out _ _ _ _ _ (fun _ _ => ?_)]
                    · exact g1
                    · simp only; rw [hl2]; omega
                · simp at hn
              · rw [List.getElem?_set, if_neg (by omega)] at hn
                obtain ⟨y, g1, g2⟩ := R.cell k bz es hb n m e c hn hm
                refine ⟨y, ?_, g2⟩
                rw [World.cell?_setCells_out _ _ _ _ _ (fun _ _ => ?_)]
                · exact g1
                · have e1 := R.wid k bz es hb n e hn
                  have e2 := (List.getElem?_eq_some_iff.1 hm).1
                  simp only
                  rw [hl2]
                  rcases Nat.lt_or_gt_of_ne hni with hlt | hlt
                  · left
                    have : (n + 1) * bz ≤ ii * bz := Nat.mul_le_mul_right _ hlt
                    rw [Nat.add_mul] at this
                    omega
                  · right
                    have : (ii + 1) * bz ≤ n * bz := Nat.mul_le_mul_right _ hlt
                    rw [Nat.add_mul] at this
                    omega)
          exact ⟨undef, _, ρ, hrun, hT.1, hT.2, rep_undef⟩
    · simp at h2
  · simp at hs
end
end Ev
end Go.Proofs.YtjomjfjbpcafhaaDoor
