/- The evaluator is right at append. No program is named here. -/
import Derived.Test.YtjomjfjbpcafhaaDoorEv7
namespace Go.Proofs.YtjomjfjbpcafhaaDoor
namespace Ev
open Go Go.RowKit
set_option linter.unusedVariables false
set_option linter.unusedSimpArgs false
section
variable {P : Program} {ti : TypeId → Option TI} {w : World} {base : Nat} {F0 : Nat → Prop} {ρ : Nat → Nat} {H : Heap}

/-- Elements, as cells one behind the other. -/
def RepEs (w : World) (base : Nat) (F : Nat → Prop) (ρ : Nat → Nat) (H : Heap) (sz : Nat) (es : List (List C)) (ys : List Value) : Prop :=
  ys.length = es.length * sz ∧ (∀ (i : Nat) e, es[i]? = some e → e.length = sz) ∧ ∀ (i j : Nat) e c, es[i]? = some e → e[j]? = some c → ∃ y, ys[i * sz + j]? = some y ∧ RepC w base F ρ H c y

theorem RepEs.mono {w' : World} {F F' : Nat → Prop} {ρ' : Nat → Nat} {H' : Heap} {sz : Nat} {es : List (List C)} {ys : List Value} (hh : ∀ c y, RepC w base F ρ H c y → RepC w' base F' ρ' H' c y) (h : RepEs w base F ρ H sz es ys) : RepEs w' base F' ρ' H' sz es ys :=
  ⟨h.1, h.2.1, fun i j e c hi hj => let ⟨y, g1, g2⟩ := h.2.2 i j e c hi hj; ⟨y, g1, hh c y g2⟩⟩
theorem RepEs.one1 {F : Nat → Prop} {sz : Nat} {es : List (List C)} {ys : List Value} (h : RepEs w base F ρ H sz es ys) : ∀ u ∈ ys, u.oneCell' = true := by
  intro u hu
  obtain ⟨n, hn, rfl⟩ := List.getElem_of_mem hu
  have hsz : 0 < sz := by
    rcases Nat.eq_zero_or_pos sz with h0 | h0
    · rw [h.1, h0] at hn; simp at hn
    · exact h0
  have hi : n / sz < es.length := by rw [Nat.div_lt_iff_lt_mul hsz, ← h.1]; exact hn
  have hj : n % sz < es[n / sz].length := by rw [h.2.1 _ _ (List.getElem?_eq_getElem hi)]; exact Nat.mod_lt _ hsz
  obtain ⟨y, g1, g2⟩ := h.2.2 (n / sz) (n % sz) _ _ (List.getElem?_eq_getElem hi) (List.getElem?_eq_getElem hj)
  rw [show n / sz * sz + n % sz = n by rw [Nat.mul_comm]; exact Nat.div_add_mod n sz, List.getElem?_eq_getElem hn] at g1
  rw [Option.some.inj g1]
  exact g2.one
theorem cells_list {F : Nat → Prop} {sz : Nat} {es : List (List C)} (hwid : ∀ (i : Nat) e, es[i]? = some e → e.length = sz) {Q : Nat → Value → Prop}
    (h : ∀ (i j : Nat) e c, es[i]? = some e → e[j]? = some c → ∃ y, Q (i * sz + j) y ∧ RepC w base F ρ H c y) : ∃ ys, RepEs w base F ρ H sz es ys ∧ ∀ (n : Nat) y, ys[n]? = some y → Q n y := by
  have key : ∀ n : Nat, ∃ y : Value, n < es.length * sz → Q n y ∧ ∀ e c, es[n / sz]? = some e → e[n % sz]? = some c → RepC w base F ρ H c y := by
    intro n
    by_cases hn : n < es.length * sz
    · have hsz : 0 < sz := by
        rcases Nat.eq_zero_or_pos sz with h0 | h0
        · rw [h0] at hn; simp at hn
        · exact h0
      have hi : n / sz < es.length := by rw [Nat.div_lt_iff_lt_mul hsz]; exact hn
      have hj : n % sz < es[n / sz].length := by rw [hwid _ _ (List.getElem?_eq_getElem hi)]; exact Nat.mod_lt _ hsz
      obtain ⟨y, g1, g2⟩ := h (n / sz) (n % sz) _ _ (List.getElem?_eq_getElem hi) (List.getElem?_eq_getElem hj)
      rw [show n / sz * sz + n % sz = n by rw [Nat.mul_comm]; exact Nat.div_add_mod n sz] at g1
      refine ⟨y, fun _ => ⟨g1, fun e c he hc => ?_⟩⟩
      rw [List.getElem?_eq_getElem hi] at he
      cases he
      rw [List.getElem?_eq_getElem hj] at hc
      cases hc
      exact g2
    · exact ⟨.nilFunc, fun hh => absurd hh hn⟩
  refine ⟨(List.range (es.length * sz)).map fun n => (key n).choose, ⟨by simp, hwid, fun i j e c hi hj => ?_⟩, fun n y hn => ?_⟩
  · have hil := (List.getElem?_eq_some_iff.1 hi).1
    have hjl := (List.getElem?_eq_some_iff.1 hj).1
    have he := hwid i e hi
    have hlt : i * sz + j < es.length * sz := by
      have : (i + 1) * sz ≤ es.length * sz := Nat.mul_le_mul_right _ hil
      rw [Nat.add_mul] at this
      omega
    have hsz : 0 < sz := by omega
    have hd : (i * sz + j) / sz = i := by rw [Nat.mul_comm, Nat.mul_add_div hsz]; simp [Nat.div_eq_of_lt (show j < sz by omega)]
    have hm : (i * sz + j) % sz = j := by rw [Nat.mul_comm, Nat.mul_add_mod, Nat.mod_eq_of_lt (by omega)]
    exact ⟨_, by simp [hlt], ((key (i * sz + j)).choose_spec hlt).2 e c (by rw [hd]; exact hi) (by rw [hm]; exact hj)⟩
  · obtain ⟨hl, h1⟩ := List.getElem?_eq_some_iff.1 hn
    simp at hl h1
    rw [← h1]
    exact ((key n).choose_spec hl).1

theorem cut_get {α : Type} {l r : List α} {i n j : Nat} {x : α} (h : cut l i n = some r) (hj : r[j]? = some x) : j < n ∧ l[i + j]? = some x := by
  obtain ⟨c1, c2, c3⟩ := cut_some h
  have hlt := (List.getElem?_eq_some_iff.1 hj).1
  rw [c1] at hlt
  exact ⟨hlt, by rw [← c3 j hlt]; exact hj⟩

/-- What is appended. -/
theorem elems_ok (R : HRel w base F0 ρ H) {d : D} {y : Value} (hy : RepD w base (Fb F0 ρ H) ρ H d y) {xs : List (List C)} (hx : elems H d = some xs) {tx e' : TypeId} (hk : P.underlying tx = some (.slice e')) {sz : Nat} (hsz : ∀ (i : Nat) e, xs[i]? = some e → e.length = sz) :
    ∃ ys, RepEs w base (Fb F0 ρ H) ρ H sz xs ys ∧ Src P sz tx y xs.length ys w := by
  unfold elems at hx
  split at hx
  · rename_i fr nn bz l
    simp only [Option.some.injEq] at hx
    subst hx
    cases hy with
    | one c y hy =>
      cases hy with
      | p fr t y h =>
        cases h with
        | s nn bz l a c yy hn hc h0 hl hm hr =>
          cases a with
          | none =>
            have hc0 := h0 rfl
            have hnil : l = [] := List.length_eq_zero_iff.1 (by omega)
            subst hnil
            subst hc0
            exact ⟨[], ⟨by simp, fun i e h => by simp at h, fun i j e c h => by simp at h⟩, Src.ofNil w hk 0⟩
          | some a =>
            obtain ⟨ys, h1, h2⟩ := cells_list (w := w) (base := base) (F := Fb F0 ρ H) (ρ := ρ) (H := H) (sz := sz) (Q := fun n y => w.cell? (a.add n) = some y) hsz (fun i j e c hi hj => by
              simp only [List.getElem?_map, Option.map_eq_some_iff] at hi
              obtain ⟨e0, g1, rfl⟩ := hi
              have hw := hsz i (e0.map (pC fr)) (by simp [g1])
              simp only [List.getElem?_map, Option.map_eq_some_iff] at hj
              obtain ⟨t, g2, rfl⟩ := hj
              obtain ⟨b, hb, k1, k2, k3⟩ := hm i e0 j t g1 g2
              cases hb
              have : bz = sz := by rw [← hl i e0 g1]; simpa using hw
              subst this
              exact ⟨yy i j, k3, rep_pC (.p fr t _ (hr i e0 j t g1 g2))⟩)
            refine ⟨ys, h1, ?_⟩
            have hlen : (l.map (·.map (pC fr))).length = l.length := by simp
            rw [hlen]
            exact Src.ofSlice w hk a l.length c ys (by rw [h1.1, hlen]) (fun j u hu => h2 j u hu) h1.one1
  · rename_i k off n
    simp only [Option.bind_eq_bind, Option.bind_eq_some_iff] at hx
    obtain ⟨⟨bz, es⟩, h1, h2⟩ := hx
    have hb := getBlk_some h1
    cases hy with
    | one c y hy =>
      cases hy with
      | own k off n c a hk' hn ha =>
        obtain ⟨g1, g2⟩ := ha _ _ hb
        subst g1
        obtain ⟨ys, y1, y2⟩ := cells_list (w := w) (base := base) (F := Fb F0 ρ H) (ρ := ρ) (H := H) (sz := sz) (Q := fun n y => w.cell? ⟨ρ k, off * bz + n, none⟩ = some y) hsz (fun i j e c hi hj => by
          obtain ⟨i1, i2⟩ := cut_get h2 hi
          have hw := R.wid k bz es hb _ e i2
          have : bz = sz := by rw [← hw]; exact hsz i e hi
          subst this
          obtain ⟨y, k1, k2⟩ := R.cell k bz es hb _ j e c i2 hj
          exact ⟨y, by rw [← k1, Nat.add_mul, Nat.add_assoc], k2⟩)
        refine ⟨ys, y1, ?_⟩
        have hlen := (cut_some h2).1
        rw [hlen]
        exact Src.ofSlice w hk _ n c ys (by rw [y1.1, hlen]) (fun j u hu => by rw [Addr.add_mid]; exact y2 j u hu) y1.one1
  · simp at hx

theorem fits {bytes need cap : Nat} (h1 : cap < need) (h2 : need ≤ bound) (h3 : bytes ≤ 65536) : Builtin.nextslicecap need cap * bytes ≤ 281474976710656 := by
  refine growslice_fits h1 ?_
  unfold bound at h2
  have : need * bytes ≤ 2 ^ 30 * 65536 := Nat.mul_le_mul h2 h3
  have e1 : (2 : Nat) ^ 30 * 65536 = 70368744177664 := by decide
  omega

/-- A block that is let go. -/
theorem hrel_kill (R : HRel w base F0 ρ H) {k sz : Nat} {es : List (List C)} (hk : H[k]? = some (.own sz es)) (hz : sz ≠ 0) : HRel w base F0 ρ (putBlk H k .dead) ∧ Ext w ρ H w ρ (putBlk H k .dead) := by
  have hback : ∀ (j sz : Nat) (es : List (List C)), (putBlk H k .dead)[j]? = some (.own sz es) → H[j]? = some (.own sz es) := fun j sz es h => by
    by_cases hj : j = k
    · subst hj; rw [put_self] at h; cases h
    · exact put_back hj (by simp) h
  have E : Ext w ρ H w ρ (putBlk H k .dead) := by
    refine ⟨rfl, rfl, rfl, Nat.le_refl _, fun _ _ _ => rfl, fun b hb ⟨j, sz', es', h1, h2⟩ => ⟨j, sz', es', hback _ _ _ h1, h2⟩, fun _ _ => rfl, fun j B hB hno => ?_, fun j es1 _ hB => ?_⟩
    · by_cases hj : j = k
      · subst hj
        exact ⟨_, put_self _ _ _, by simp, fun _ _ he => by cases he⟩
      · exact ⟨B, put_keeps hj hB, hno, fun sz' es' he => ⟨es', he, rfl⟩⟩
    · by_cases hj : j = k
      · subst hj; rw [hk] at hB; cases hB; exact absurd rfl hz
      · exact ⟨put_keeps hj hB, rfl⟩
  exact ⟨hrel_gen R E (fun j sz' es' h => .inl ⟨hback _ _ _ h, rfl, rfl⟩) fun j j' _ _ _ _ h1 h2 h3 => R.inj j j' _ _ _ _ (hback _ _ _ h1) (hback _ _ _ h2) h3, E⟩

/-- A slice that came in anew: as cells in a new block, with room behind them. -/
theorem good_grown (R : HRel w base F0 ρ H) (hb : base ≤ w.heap.size) {nid : Nat} (hn : ∀ B, H[nid]? = some B → B = .no) {s : Sem Value} {arr : Array Value} {ty : TypeId} {sz : Nat} {es : List (List C)} {ys : List Value} {cap : Nat}
    (hes : RepEs w base (Fb F0 ρ H) ρ H sz es ys) (harr : ∀ (n : Nat) y, ys[n]? = some y → arr[n]? = some y) (hsize : cap * sz ≤ arr.size) (hcap : es.length ≤ cap)
    (hrun : s.run P w = .ok (.slice (some ⟨w.heap.size, 0, none⟩) es.length cap) (w.drew.alloc (.cells arr ty))) :
    Good P base F0 w ρ H s { v := .one (.own nid 0 es.length), upd := [(nid, .own sz es)] } := by
  have hfit : es.length * sz ≤ arr.size := Nat.le_trans (Nat.mul_le_mul_right _ hcap) hsize
  obtain ⟨h1, h2⟩ := hrel_alloc R hb hn (w1 := w.drew) rfl rfl rfl rfl (arr := arr) (ty := ty) hfit hes.2.1 (fun i j e c hi hj => let ⟨y, g1, g2⟩ := hes.2.2 i j e c hi hj; ⟨y, harr _ y g1, g2⟩)
  refine ⟨_, _, _, hrun, h1, h2, ?_⟩
  have hk : ∃ B, (putBlk H nid (.own sz es))[nid]? = some B ∧ B ≠ .no := ⟨_, put_self _ _ _, by simp⟩
  have hbs : bsize (w.drew.alloc (.cells arr ty)) w.heap.size = arr.size := by
    unfold bsize
    have : (w.drew.alloc (.cells arr ty)).heap[w.heap.size]? = some (.cells arr ty) := by show (w.heap.push _)[w.heap.size]? = _; simp
    rw [this]
  simp only [apply, List.foldl_cons, List.foldl_nil]
  refine .one _ _ (.own nid 0 _ cap _ hk hcap fun sz' es' hb' => ?_)
  rw [put_self] at hb'
  cases hb'
  simp only [if_true]
  rw [hbs]
  simpa using hsize

theorem append_ok (h : TiOk P ti) (R : HRel w base F0 ρ H) (hb : base ≤ w.heap.size) {nid : Nat} (hn : ∀ B, H[nid]? = some B → B = .no) {t tx e : TypeId} {i ix te : TI} (ht : ti t = some i) (hd : i.desc = .slice e) (hte : ti e = some te)
    (hx : ti tx = some ix) {ex : TypeId} (hdx : ix.desc = .slice ex) {da dx : D} {a x : Value} (ha : RepD w base (Fb F0 ρ H) ρ H da a) (hxx : RepD w base (Fb F0 ρ H) ρ H dx x) {ef : Eff} (hap : append H nid te.size da dx = some ef) (ty : TypeId) :
    Good P base F0 w ρ H (Builtin.append_ #[t, tx] ty #[a, x]) ef := by
  obtain ⟨o, z, o1, o2, o3, o4, o5⟩ := h.info e te hte
  have hu := h.und t i ht
  rw [hd] at hu
  have hux := h.und tx ix hx
  rw [hdx] at hux
  have hby := (h.zero e te hte).2.2
  unfold Ev.append at hap
  simp only [Option.bind_eq_bind, Option.bind_eq_some_iff] at hap
  obtain ⟨xs, hxs, hap⟩ := hap
  split at hap
  · rename_i fr nn bz
    split at hap
    · simp at hap
    · rename_i hnn
      split at hap
      · rename_i h0
        simp only [Option.some.injEq] at hap
        subst hap
        obtain ⟨ys, y1, y2⟩ := elems_ok (P := P) R hxx hxs hux (sz := te.size) (fun k e hk => by rw [List.length_eq_zero_iff.1 h0] at hk; simp at hk)
        obtain ⟨a', c', e1, e2, e3, e4⟩ := rep_sl (by cases ha with | one c y hc => exact hc)
        have hnone : a' = none := by cases a' with | none => rfl | some b => simp at e2; simp [e2] at hnn
        subst hnone
        have hc0 := e4 rfl
        subst hc0
        have hyn : ys = [] := List.length_eq_zero_iff.1 (by rw [y1.1, h0]; simp)
        subst hyn
        rw [h0] at y2
        refine good_quiet R (y := a) ?_ ha
        subst e1
        have hlen : ∀ w', (Builtin.lenOf x).run P w' = .ok 0 w' := y2.len
        have hcl := y2.cells
        simp [Builtin.append_, run_underlying hu, run_underlying hux, sizeOf, typeInfo, o1, o4, hlen, hcl]
      · rename_i h0
        split at hap
        · rename_i hle
          split at hap
          · rename_i hwid
            simp only [Option.some.injEq] at hap
            subst hap
            obtain ⟨ys, y1, y2⟩ := elems_ok (P := P) R hxx hxs hux (sz := te.size) (fun k e hk => by have := List.all_eq_true.1 hwid e (List.mem_of_getElem? hk); simpa using this)
            obtain ⟨a', c', e1, e2, e3, e4⟩ := rep_sl (by cases ha with | one c y hc => exact hc)
            have hnone : a' = none := by cases a' with | none => rfl | some b => simp at e2; simp [e2] at hnn
            subst hnone
            have hc0 := e4 rfl
            subst hc0
            subst e1
            have hpos : 0 < xs.length := by omega
            rw [← o4] at y2
            have hrun := run_append_grow_src (P := P) w t tx ty e o z hu o1 o2 none 0 0 [] (by simp [run_firstCells_none]) x xs.length ys y2 (by omega) (by unfold bound at hle; omega) (by rw [o5]; exact fits (by omega) (by omega) hby)
            simp only [Nat.zero_add, List.nil_append] at hrun
            have hcapge : xs.length ≤ grownCap w xs.length 0 e := by unfold grownCap Question.cut; simp
            refine good_grown R hb hn y1 (fun n y hy => ?_) ?_ hcapge hrun
            · have hlt := (List.getElem?_eq_some_iff.1 hy).1
              rw [Array.getElem?_append_left (by simpa using hlt)]
              simpa using hy
            · have hzs : z.cells.size = te.size := by rw [← (h.zero e te hte).2.1, ← o3]; simp
              simp [Builtin.zeroCells, y1.1, hzs]
              rw [← Nat.add_mul, Nat.add_sub_cancel' hcapge]
              exact Nat.le_refl _
          · simp at hap
        · simp at hap
  · rename_i k off n
    simp only [Option.bind_eq_some_iff] at hap
    obtain ⟨⟨bz, es⟩, hg, hap⟩ := hap
    have hbk := getBlk_some hg
    split at hap
    · rename_i hc
      obtain ⟨rfl, rfl, hle, rfl, hwid, hz0⟩ := hc
      simp only at hle
      simp only [Option.some.injEq] at hap
      subst hap
      obtain ⟨ys, y1, y2⟩ := elems_ok (P := P) R hxx hxs hux (sz := te.size) (fun k e hk => by have := List.all_eq_true.1 hwid e (List.mem_of_getElem? hk); simpa using this)
      cases ha with
      | one c y ha =>
        cases ha with
        | own k' off' n' c a hk' hcap haa =>
          obtain ⟨g1, g2⟩ := haa _ _ hbk
          simp only [Nat.zero_mul, Nat.zero_add] at g1 g2
          subst g1
          obtain ⟨os, q1, q2⟩ := cells_list (w := w) (base := base) (F := Fb F0 ρ H) (ρ := ρ) (H := H) (sz := te.size) (Q := fun n y => w.cell? ⟨ρ k, n, none⟩ = some y) (R.wid k _ es hbk) (fun i j e c hi hj => R.cell k _ es hbk i j e c hi hj)
          have hall : RepEs w base (Fb F0 ρ H) ρ H te.size (es ++ xs) (os ++ ys) := by
            refine ⟨by simp [q1.1, y1.1, Nat.add_mul], fun i e hi => ?_, fun i j e c hi hj => ?_⟩
            · rw [List.getElem?_append] at hi
              split at hi
              · exact q1.2.1 i e hi
              · exact y1.2.1 _ e hi
            · rw [List.getElem?_append] at hi
              split at hi
              · rename_i hlt
                obtain ⟨y, k1, k2⟩ := q1.2.2 i j e c hi hj
                have := (List.getElem?_eq_some_iff.1 k1).1
                exact ⟨y, by rw [List.getElem?_append_left this]; exact k1, k2⟩
              · rename_i hge
                obtain ⟨y, k1, k2⟩ := y1.2.2 _ j e c hi hj
                have hge2 : es.length * te.size ≤ i * te.size := Nat.mul_le_mul_right _ (by omega)
                refine ⟨y, ?_, k2⟩
                rw [List.getElem?_append_right (by rw [q1.1]; omega), q1.1, ← k1, Nat.sub_mul]
                congr 1
                omega
          rw [← o4] at y2
          by_cases hroom : es.length + xs.length ≤ c
          · have hst : (es.length + xs.length) * te.size ≤ bsize w (ρ k) := Nat.le_trans (Nat.mul_le_mul_right _ hroom) g2
            rw [Nat.add_mul] at hst
            have hcell : ∀ j, j < ys.length → (w.cell? ⟨ρ k, es.length * te.size + j, none⟩).isSome = true := fun j hj => cell_lt.1 (by rw [y1.1] at hj; omega)
            have hrun := run_append_room_src (P := P) w t tx ty e o hu o1 (ρ k) 0 es.length c x xs.length ys y2 hroom (by rw [o4]; simpa using hcell) (fun j hj => R.fz k _ es hbk _)
            rw [o4] at hrun
            simp only [Nat.zero_add] at hrun
            obtain ⟨f1, f2, f3, f4, f5, f6⟩ := setCells_frame (ρ k) ys (es.length * te.size) w
            obtain ⟨r1, r2⟩ := hrel_room R (es' := es ++ xs) hbk hn f1 f2 f3 f4 f5 f6 (fun o => by rw [World.frozen?_setCells]; exact R.fz k _ es hbk o) (by simp [Nat.add_mul]; omega) hz0 hall.2.1 (fun i j e c hi hj => by
              obtain ⟨y, k1, k2⟩ := hall.2.2 i j e c hi hj
              refine ⟨y, ?_, k2⟩
              by_cases hlt : i * te.size + j < os.length
              · rw [List.getElem?_append_left hlt] at k1
                rw [World.cell?_setCells_out _ _ _ _ _ (fun _ _ => by simp only; left; rw [q1.1] at hlt; exact hlt)]
                exact q2 _ y k1
              · rw [List.getElem?_append_right (by omega), q1.1] at k1
                have hl2 := (List.getElem?_eq_some_iff.1 k1).1
                have := World.cell?_setCells_in (ρ k) ys (es.length * te.size) w hcell _ hl2
                rw [q1.1] at hlt
                rw [show es.length * te.size + (i * te.size + j - es.length * te.size) = i * te.size + j by omega] at this
                rw [this, ← k1]
                simp)
            refine ⟨_, _, _, hrun, r1, r2, ?_⟩
            simp only [apply, List.foldl_cons, List.foldl_nil]
            refine .one _ _ (.own nid 0 _ c _ ⟨_, put_self _ _ _, by simp⟩ hroom fun sz' es' hb' => ?_)
            rw [put_self] at hb'
            cases hb'
            simp only [if_true, f6, Nat.zero_mul, Nat.zero_add]
            exact ⟨trivial, g2⟩
          · have hold : (Builtin.firstCells o.size es.length (.slice (some ⟨ρ k, 0, none⟩) es.length c)).run P w.drew = .ok os.toArray w.drew :=
              run_firstCells_some w.drew o.size es.length _ es.length c os (by rw [q1.1, o4]) (fun j v hv => by rw [Addr.add_mid]; simpa using q2 j v hv)
            have hrun := run_append_grow_src (P := P) w t tx ty e o z hu o1 o2 (some ⟨ρ k, 0, none⟩) es.length c os hold x xs.length ys y2 (by omega) (by unfold bound at hle; omega) (by rw [o5]; exact fits (by omega) hle hby)
            have hcapge : es.length + xs.length ≤ grownCap w (es.length + xs.length) c e := by unfold grownCap Question.cut; simp
            have hlen2 : (es ++ xs).length = es.length + xs.length := by simp
            have hkn : k ≠ nid := fun e => by have := hn _ (e ▸ hbk); simp at this
            obtain ⟨R2, E2⟩ := hrel_kill R hbk hz0
            have hmono : ∀ c y, RepC w base (Fb F0 ρ H) ρ H c y → RepC w base (Fb F0 ρ (putBlk H k .dead)) ρ (putBlk H k .dead) c y := fun c y hc => hc.ext R.lt E2
            have hn2 : ∀ B, (putBlk H k .dead)[nid]? = some B → B = .no := fun B hB => by
              by_cases hno : B = .no
              · exact hno
              · exact hn B (put_back (Ne.symm hkn) hno hB)
            have hG := good_grown (P := P) R2 hb hn2 (s := Builtin.append_ #[t, tx] ty #[.slice (some ⟨ρ k, 0, none⟩) es.length c, x]) (ty := e)
              (arr := (os ++ ys).toArray ++ Builtin.zeroCells z.cells (grownCap w (es.length + xs.length) c e - (es.length + xs.length))) (cap := grownCap w (es.length + xs.length) c e) (hall.mono hmono) (fun n y hy => by
                have hlt := (List.getElem?_eq_some_iff.1 hy).1
                rw [Array.getElem?_append_left (by simpa using hlt)]
                simpa using hy) (by
                have hzs : z.cells.size = te.size := by rw [← (h.zero e te hte).2.1, ← o3]; simp
                simp [Builtin.zeroCells, q1.1, y1.1, hzs]
                rw [← Nat.add_mul, ← Nat.add_mul, Nat.add_sub_cancel' hcapge]
                exact Nat.le_refl _) (by rw [hlen2]; exact hcapge) (by rw [hlen2]; exact hrun)
            obtain ⟨y', w', ρ', m1, m2, m3, m4⟩ := hG
            rw [hlen2] at m4
            exact ⟨y', w', ρ', m1, m2, E2.trans m3, m4⟩
    · simp at hap
  · simp at hap
theorem copy_ok (h : TiOk P ti) (R : HRel w base F0 ρ H) {t tx e : TypeId} {i ix te : TI} (ht : ti t = some i) (hd : i.desc = .slice e) (hte : ti e = some te)
    (hx : ti tx = some ix) {ex : TypeId} (hdx : ix.desc = .slice ex) {da dx : D} {a x : Value} (ha : RepD w base (Fb F0 ρ H) ρ H da a) (hxx : RepD w base (Fb F0 ρ H) ρ H dx x) {ef : Eff} (hap : copyD H te.size da dx = some ef) (ty : TypeId) :
    Good P base F0 w ρ H (Builtin.copy_ #[t, tx] ty #[a, x]) ef := by
  obtain ⟨o, z, o1, o2, o3, o4, o5⟩ := h.info e te hte
  have hu := h.und t i ht
  rw [hd] at hu
  have hux := h.und tx ix hx
  rw [hdx] at hux
  unfold copyD at hap
  simp only [Option.bind_eq_bind, Option.bind_eq_some_iff] at hap
  obtain ⟨xs, hxs, hap⟩ := hap
  split at hap
  · rename_i k off n
    simp only [Option.bind_eq_some_iff] at hap
    obtain ⟨⟨bz, es⟩, hg, es', hp, hap⟩ := hap
    have hbk := getBlk_some hg
    split at hap
    · rename_i hc
      obtain ⟨rfl, hle, hwid, hz0⟩ := hc
      simp only [Option.some.injEq] at hap
      subst hap
      obtain ⟨ys, y1, y2⟩ := elems_ok (P := P) R hxx hxs hux (sz := te.size) (fun k e hk => by have := List.all_eq_true.1 hwid e (List.mem_of_getElem? hk); simpa using this)
      obtain ⟨p1, p2, p3⟩ := patch_some hp
      cases ha with
      | one c y ha =>
        cases ha with
        | own k' off' n' c a hk' hcap haa =>
          obtain ⟨g1, g2⟩ := haa _ _ hbk
          subst g1
          rw [← o4] at y2
          have hfit := R.fit k _ _ hbk
          have hyl : ys.length = xs.length * te.size := y1.1
          have hcell : ∀ j, j < ys.length → (w.cell? ⟨ρ k, off * te.size + j, none⟩).isSome = true := fun j hj => cell_lt.1 (by
            have e1 : (off + xs.length) * te.size ≤ es.length * te.size := Nat.mul_le_mul_right _ p1
            rw [Nat.add_mul] at e1
            omega)
          have hst := run_storeCells_cells (P := P) (ρ k) (off * te.size) ys 0 w (by simpa using hcell) (fun j hj => R.fz k _ es hbk _) y2.one
          simp only [Nat.add_zero] at hst
          have hmin : Nat.min xs.length n = xs.length := Nat.min_eq_left hle
          have hcl := y2.cells
          have hlen : ∀ w', (Builtin.lenOf x).run P w' = .ok xs.length w' := y2.len
          have hrun : (Builtin.copy_ #[t, tx] ty #[.slice (some ⟨ρ k, off * te.size, none⟩) n c, x]).run P w = .ok (goInt xs.length) (w.setCells (ρ k) (off * te.size) ys) := by
            simp [Builtin.copy_, run_underlying hu, sizeOf, typeInfo, o1, hlen, hmin, hcl, hst]
          obtain ⟨f1, f2, f3, f4, f5, f6⟩ := setCells_frame (ρ k) ys (off * te.size) w
          have hT := hrel_turn R (es' := es') hbk f1 f2 f3 f4 f5 f6 (fun o => by rw [World.frozen?_setCells]; exact R.fz k _ es hbk o) p2 (fun hz => absurd hz hz0)
            (fun i e hi => by
              rw [p3 i] at hi
              split at hi
              · exact by have := List.all_eq_true.1 hwid e (List.mem_of_getElem? hi); simpa using this
              · exact R.wid k _ es hbk i e hi)
            (fun i j e c hi hj => by
              rw [p3 i] at hi
              split at hi
              · rename_i hr
                obtain ⟨y, k1, k2⟩ := y1.2.2 (i - off) j e c hi hj
                refine ⟨y, ?_, k2⟩
                have hlt := (List.getElem?_eq_some_iff.1 k1).1
                have := World.cell?_setCells_in (ρ k) ys (off * te.size) w hcell ((i - off) * te.size + j) hlt
                rw [show off * te.size + ((i - off) * te.size + j) = i * te.size + j by
                  have : off * te.size + (i - off) * te.size = i * te.size := by rw [← Nat.add_mul]; congr 1; omega
                  omega] at this
                rw [this, ← k1]
                simp
              · rename_i hr
                obtain ⟨y, k1, k2⟩ := R.cell k _ es hbk i j e c hi hj
                refine ⟨y, ?_, k2⟩
                rw [World.cell?_setCells_out _ _ _ _ _ (fun _ _ => ?_)]
                · exact k1
                · have e1 := R.wid k _ es hbk i e hi
                  have e2 := (List.getElem?_eq_some_iff.1 hj).1
                  simp only
                  rw [hyl]
                  by_cases hio : i < off
                  · left
                    have : (i + 1) * te.size ≤ off * te.size := Nat.mul_le_mul_right _ hio
                    rw [Nat.add_mul] at this
                    omega
                  · right
                    have : (off + xs.length) * te.size ≤ i * te.size := Nat.mul_le_mul_right _ (by omega)
                    rw [Nat.add_mul] at this
                    omega)
          exact ⟨_, _, ρ, hrun, hT.1, hT.2, rep_mk rfl⟩
    · simp at hap
  · simp only [Option.some.injEq] at hap
    subst hap
    obtain ⟨a', c', e1, e2, e3, e4⟩ := rep_sl (by cases ha with | one c y hc => exact hc)
    subst e1
    have hfc : ∃ sp sLen sCap, x = .slice sp sLen sCap := by
      unfold elems at hxs
      split at hxs
      · cases hxx with
        | one c y hy => cases hy with
          | p fr t y h => cases h with
            | s nn bz l a c yy hn hc h0 hl hm hr => exact ⟨_, _, _, rfl⟩
      · cases hxx with
        | one c y hy => cases hy with
          | own k off n c a hk' hn ha => exact ⟨_, _, _, rfl⟩
      · simp at hxs
    obtain ⟨sp, sLen, sCap, rfl⟩ := hfc
    refine good_quiet R (y := goInt 0) ?_ (rep_mk rfl)
    have hmin : Nat.min sLen 0 = 0 := Nat.min_zero _
    cases sp with
    | none => cases a' <;> simp [Builtin.copy_, run_underlying hu, sizeOf, typeInfo, o1, Builtin.lenOf, Builtin.firstCells, hmin, storeCells]
    | some b => cases a' <;> simp [Builtin.copy_, run_underlying hu, sizeOf, typeInfo, o1, Builtin.lenOf, Builtin.firstCells, hmin, storeCells, loadCells, loadCellsFrom]
  · simp at hap
end
end Ev
end Go.Proofs.YtjomjfjbpcafhaaDoor
