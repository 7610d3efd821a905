/- The evaluator is right at structs, arrays and new blocks. No program is named here. -/
import Derived.Test.YtjomjfjbpcafhaaDoorEv6
namespace Go.Proofs.YtjomjfjbpcafhaaDoor
namespace Ev
open Go Go.RowKit
set_option linter.unusedVariables false
set_option linter.unusedSimpArgs false
section
variable {P : Program} {ti : TypeId → Option TI} {w : World} {base : Nat} {F0 : Nat → Prop} {ρ : Nat → Nat} {H : Heap}

theorem fold_set (off : Nat) : ∀ (l : List Value) (s : Nat) (arr : Array Value), ((l.zipIdx s).foldl (fun cs p => cs.setIfInBounds (off + p.2) p.1) arr).size = arr.size ∧
    ∀ m, ((l.zipIdx s).foldl (fun cs p => cs.setIfInBounds (off + p.2) p.1) arr)[m]? = if off + s ≤ m ∧ m < off + s + l.length ∧ m < arr.size then l[m - (off + s)]? else arr[m]?
  | [], s, arr => ⟨rfl, fun m => by rw [if_neg (by simp; omega)]; rfl⟩
  | v :: l, s, arr => by
    obtain ⟨h1, h2⟩ := fold_set off l (s + 1) (arr.setIfInBounds (off + s) v)
    refine ⟨by simpa using h1, fun m => ?_⟩
    simp only [List.zipIdx_cons, List.foldl_cons]
    rw [h2 m]
    simp only [Array.size_setIfInBounds, List.length_cons]
    by_cases hm : m = off + s
    · subst hm
      rw [if_neg (by omega)]
      by_cases hs : off + s < arr.size
      · rw [if_pos (by omega)]; simp [Array.getElem?_setIfInBounds, hs]
      · rw [if_neg (by omega)]; simp [Array.getElem?_setIfInBounds]
        rw [if_neg hs]; exact (Array.getElem?_eq_none (by omega)).symm
    · by_cases hin : off + (s + 1) ≤ m ∧ m < off + (s + 1) + l.length ∧ m < arr.size
      · rw [if_pos hin, if_pos (by omega), show m - (off + s) = (m - (off + (s + 1))) + 1 by omega]; simp
      · rw [if_neg hin, if_neg (by omega), Array.getElem?_setIfInBounds, if_neg (by omega)]

/-- Parts and their values. -/
def RepPs (w : World) (base : Nat) (F : Nat → Prop) (ρ : Nat → Nat) (H : Heap) (ps : List (Nat × D)) (vs : List (Nat × Value)) : Prop :=
  ps.length = vs.length ∧ ∀ (i : Nat) p, ps[i]? = some p → ∃ v, vs[i]? = some (p.1, v) ∧ RepD w base F ρ H p.2 v
theorem fill_ok {F : Nat → Prop} {pl : Nat → Option (Nat × Nat)} : ∀ (ps : List (Nat × D)) (vs : List (Nat × Value)) (cs r : List C) (arr : Array Value), RepPs w base F ρ H ps vs → RepCs w base F ρ H cs arr.toList → Ev.fill pl cs ps = some r →
    ∃ arr', Instr.fill pl arr vs = some arr' ∧ RepCs w base F ρ H r arr'.toList
  | [], vs, cs, r, arr, hp, hc, hf => by
    have : vs = [] := List.length_eq_zero_iff.1 hp.1.symm
    subst this
    simp only [Ev.fill, Option.some.injEq] at hf
    subst hf
    exact ⟨arr, rfl, hc⟩
  | (i, d) :: ps, [], cs, r, arr, hp, hc, hf => by simp [RepPs] at hp
  | (i, d) :: ps, (i', v) :: vs, cs, r, arr, hp, hc, hf => by
    obtain ⟨v', h1, hd⟩ := hp.2 0 (i, d) rfl
    simp at h1
    obtain ⟨rfl, rfl⟩ := h1
    have hp' : RepPs w base F ρ H ps vs := ⟨by have := hp.1; simpa using this, fun j p hj => by have := hp.2 (j + 1) p (by simpa using hj); simpa using this⟩
    simp only [Ev.fill, Option.bind_eq_bind, Option.bind_eq_some_iff] at hf
    obtain ⟨⟨off, size⟩, e1, ds, e2, e3⟩ := hf
    split at e3
    · rename_i hlen
      simp only [Option.bind_eq_some_iff] at e3
      obtain ⟨cs', e4, e5⟩ := e3
      obtain ⟨hr, hone⟩ := dcells_rep hd e2
      obtain ⟨p1, p2, p3⟩ := patch_some e4
      have hl : v.cells.size = ds.length := by have := hr.1; simpa using this.symm
      have hl2 : cs.length = arr.size := by have := hc.1; simpa using this
      have hfold : v.cells.zipIdx.foldl (fun cs (c, j) => cs.setIfInBounds (off + j) c) arr = (v.cells.toList.zipIdx 0).foldl (fun cs p => cs.setIfInBounds (off + p.2) p.1) arr := by
        rw [← Array.foldl_toList, Array.toList_zipIdx]
      obtain ⟨f1, f2⟩ := fold_set off v.cells.toList 0 arr
      obtain ⟨arr', g1, g2⟩ := fill_ok ps vs cs' r (v.cells.zipIdx.foldl (fun cs (c, j) => cs.setIfInBounds (off + j) c) arr) hp' ⟨by rw [hfold]; simp [f1, p2, hl2], fun m c hm => by
        rw [hfold]
        rw [p3 m] at hm
        rw [Array.getElem?_toList, f2 m]
        split at hm
        · rename_i hr2
          rw [if_pos (by simp [hl]; omega)]
          simpa using hr.2 _ c hm
        · rename_i hr2
          rw [if_neg (by simp [hl]; omega)]
          simpa using hc.2 m c hm⟩ e5
      refine ⟨arr', ?_, g2⟩
      simp only [Instr.fill, e1]
      rw [if_neg (by simp [hl]; omega)]
      exact g1
    · simp at e3

theorem parts_rep {F : Nat → Prop} {g : Tmp → Option D} {a : Act} (h : RelG w base F ρ H g a) : ∀ (l : List (Nat × Operand)) (ps : List (Nat × D)), (l.mapM fun (i, x) => (opndG g x).map fun d => (i, d)) = some ps →
    RepPs w base F ρ H ps (l.map fun (i, x) => (i, a.eval x))
  | [], ps, hp => by simp at hp; subst hp; exact ⟨rfl, fun i p hi => by simp at hi⟩
  | (i, x) :: l, ps, hp => by
    simp only [List.mapM_cons, Option.bind_eq_bind, Option.bind_eq_some_iff, Option.map_eq_some_iff, Option.pure_def, Option.some.injEq] at hp
    obtain ⟨p, ⟨d, h1, rfl⟩, r, h2, rfl⟩ := hp
    obtain ⟨g1, g2⟩ := parts_rep h l r h2
    refine ⟨by simpa using g1, fun j p hj => ?_⟩
    cases j with
    | zero => simp at hj; subst hj; exact ⟨a.eval x, by simp, h.opnd h1⟩
    | succ j => simp at hj; simpa using g2 j p hj
theorem args_rep {F : Nat → Prop} {g : Tmp → Option D} {a : Act} (h : RelG w base F ρ H g a) : ∀ (l : List Operand) (ds : List D), l.mapM (opndG g) = some ds → ds.length = l.length ∧ ∀ (i : Nat) d, ds[i]? = some d → ∃ y, (l.map a.eval)[i]? = some y ∧ RepD w base F ρ H d y
  | [], ds, hp => by simp at hp; subst hp; exact ⟨rfl, fun i p hi => by simp at hi⟩
  | x :: l, ds, hp => by
    simp only [List.mapM_cons, Option.bind_eq_bind, Option.bind_eq_some_iff, Option.pure_def, Option.some.injEq] at hp
    obtain ⟨d, h1, r, h2, rfl⟩ := hp
    obtain ⟨g1, g2⟩ := args_rep h l r h2
    refine ⟨by simpa using g1, fun j p hj => ?_⟩
    cases j with
    | zero => simp at hj; subst hj; exact ⟨a.eval x, by simp, h.opnd h1⟩
    | succ j => simp at hj; simpa using g2 j p hj

theorem zero_rep (h : TiOk P ti) {ty : TypeId} {i : TI} (ht : ti ty = some i) {F : Nat → Prop} : RepCs w base F ρ H (zrow i) i.zero := rep_zeros (h.zero ty i ht).1

theorem places_mapM (h : TiOk P ti) : ∀ (fs : List Field) (l : List (Nat × Nat)), (fs.mapM fun f => (ti f.type).map fun i => (f.offset, i.size)) = some l → (fs.mapM fun f => (P.info? f.type).map fun i => (f.offset, i.size)) = some l
  | [], l, hl => by simpa using hl
  | f :: fs, l, hl => by
    simp only [List.mapM_cons, Option.bind_eq_bind, Option.bind_eq_some_iff, Option.map_eq_some_iff, Option.pure_def, Option.some.injEq] at hl ⊢
    obtain ⟨p, ⟨i, h1, rfl⟩, r, h2, rfl⟩ := hl
    obtain ⟨o, z, g1, _, _, g4, _⟩ := h.info _ _ h1
    exact ⟨_, ⟨o, g1, rfl⟩, r, places_mapM h fs r h2, by rw [g4]⟩
theorem build_ok (h : TiOk P ti) {ty : TypeId} {i : TI} (ht : ti ty = some i) {F : Nat → Prop} {pl : Nat → Option (Nat × Nat)} (hpl : places ti i = some pl) {ps : List (Nat × D)} {vs : List (Nat × Value)} (hp : RepPs w base F ρ H ps vs) {r : List C}
    (hf : Ev.fill pl (zrow i) ps = some r) : ∃ z, (Instr.build ty vs.toArray).run P w = .ok z w ∧ RepD w base F ρ H (.agg r) z := by
  obtain ⟨o, z, g1, g2, g3, g4, g5⟩ := h.info ty i ht
  have hz : RepCs w base F ρ H (zrow i) z.cells.toList := by rw [g3]; exact zero_rep h ht
  obtain ⟨arr', f1, f2⟩ := fill_ok ps vs (zrow i) r z.cells hp hz hf
  have hb : P.built ty vs = some arr' := by
    unfold Program.built
    rw [g1, h.und ty i ht]
    unfold places at hpl
    split at hpl
    · rename_i fs hd
      rw [hd]
      simp only [Option.map_eq_some_iff] at hpl
      obtain ⟨l, k1, rfl⟩ := hpl
      simp only [g2, places_mapM h _ _ k1]
      simpa using f1
    · rename_i n e hd
      rw [hd]
      simp only [Option.map_eq_some_iff] at hpl
      obtain ⟨te, k1, rfl⟩ := hpl
      obtain ⟨o2, z2, m1, m2, m3, m4, m5⟩ := h.info _ _ k1
      simp only [g2, m1, m4]
      exact f1
    · simp at hpl
  refine ⟨_, run_build w ty vs.toArray arr' (by simpa using hb), ?_⟩
  have := RepD.agg _ _ f2
  simpa using this

theorem rowsOf_some {sz n : Nat} {cs : List C} {es : List (List C)} (h : rowsOf sz cs n = some es) : es.length = n ∧ ∀ (i : Nat) e, es[i]? = some e → cut cs (i * sz) sz = some e := by
  unfold rowsOf at h
  have key : ∀ (l : List Nat) (es : List (List C)), l.mapM (fun i => cut cs (i * sz) sz) = some es → es.length = l.length ∧ ∀ (i : Nat) e, es[i]? = some e → ∃ q, l[i]? = some q ∧ cut cs (q * sz) sz = some e := by
    intro l
    induction l with
    | nil => intro es h; simp at h; subst h; exact ⟨rfl, fun i e hi => by simp at hi⟩
    | cons q l ih =>
      intro es h
      simp only [List.mapM_cons, Option.bind_eq_bind, Option.bind_eq_some_iff, Option.pure_def, Option.some.injEq] at h
      obtain ⟨e0, h1, r, h2, rfl⟩ := h
      obtain ⟨g1, g2⟩ := ih r h2
      refine ⟨by simpa using g1, fun i e hi => ?_⟩
      cases i with
      | zero => simp at hi; subst hi; exact ⟨q, rfl, h1⟩
      | succ i => simpa using g2 i e (by simpa using hi)
  obtain ⟨g1, g2⟩ := key _ _ h
  refine ⟨by simpa using g1, fun i e hi => ?_⟩
  obtain ⟨q, k1, k2⟩ := g2 i e hi
  have hlt := (List.getElem?_eq_some_iff.1 hi).1
  rw [g1] at hlt
  simp at hlt
  simp [hlt] at k1
  rw [k1]; exact k2

/-- A new block, with what yields it. -/
theorem good_new (R : HRel w base F0 ρ H) (hb : base ≤ w.heap.size) {nid : Nat} (hn : ∀ B, H[nid]? = some B → B = .no) {s : Sem Value} {arr : Array Value} {ty : TypeId} {sz : Nat} {es : List (List C)} {n : Nat} {d : D} {y : Value}
    (hfit : es.length * sz ≤ arr.size) (hwid : ∀ (i : Nat) e, es[i]? = some e → e.length = sz)
    (hc : ∀ (i j : Nat) e c, es[i]? = some e → e[j]? = some c → ∃ y, arr[i * sz + j]? = some y ∧ RepC w base (Fb F0 ρ H) ρ H c y)
    (hrun : s.run P w = .ok y (w.alloc (.cells arr ty)))
    (hy : (d = .one (.ptr nid 0 0) ∧ y = .pointer (some ⟨w.heap.size, 0, none⟩)) ∨ (d = .one (.own nid 0 n) ∧ y = .slice (some ⟨w.heap.size, 0, none⟩) n n ∧ n * sz ≤ arr.size)) :
    Good P base F0 w ρ H s { v := d, upd := [(nid, .own sz es)] } := by
  obtain ⟨h1, h2⟩ := hrel_alloc R hb hn (w1 := w) rfl rfl rfl rfl (ty := ty) hfit hwid hc
  refine ⟨y, _, _, hrun, h1, h2, ?_⟩
  have hk : ∃ B, (putBlk H nid (.own sz es))[nid]? = some B ∧ B ≠ .no := ⟨_, put_self _ _ _, by simp⟩
  have hbs : bsize (w.alloc (.cells arr ty)) w.heap.size = arr.size := by
    unfold bsize
    have : (w.alloc (.cells arr ty)).heap[w.heap.size]? = some (.cells arr ty) := by show (w.heap.push _)[w.heap.size]? = _; simp
    rw [this]
  simp only [apply, List.foldl_cons, List.foldl_nil]
  rcases hy with ⟨rfl, rfl⟩ | ⟨rfl, rfl, hle⟩
  · refine .one _ _ (.ptr nid 0 0 _ hk fun sz' es' hb' => ?_)
    simp
  · refine .one _ _ (.own nid 0 n n _ hk (Nat.le_refl _) fun sz' es' hb' => ?_)
    rw [put_self] at hb'
    cases hb'
    simp only [if_true]
    rw [hbs]
    simpa using hle

theorem alloc_ok (h : TiOk P ti) (R : HRel w base F0 ρ H) (hb : base ≤ w.heap.size) {nid : Nat} (hn : ∀ B, H[nid]? = some B → B = .no) {ty : TypeId} {i : TI} (ht : ti ty = some i) :
    Good P base F0 w ρ H (Instr.alloc ty true (.tuple #[])) { v := .one (.ptr nid 0 0), upd := [(nid, .own i.size [zrow i])] } := by
  obtain ⟨z, z1, z2⟩ := zero_run h ht
  have hz := zero_rep (w := w) (base := base) (ρ := ρ) (H := H) h ht (F := Fb F0 ρ H)
  have hl := (h.zero ty i ht).2.1
  refine good_new R hb hn (arr := z.cells) (ty := ty) (n := 0) (by simp [← hl, ← z1]) (fun n e he => ?_) (fun n m e c he hm => ?_) ?_ (.inl ⟨rfl, rfl⟩)
  · cases n with
    | zero => simp at he; subst he; simp [zrow, hl]
    | succ n => simp at he
  · cases n with
    | zero =>
      simp at he; subst he
      obtain ⟨y, g1, g2⟩ := hz.2 m c hm
      exact ⟨y, by rw [← z1] at g1; simpa using g1, g2⟩
    | succ n => simp at he
  · simp [Instr.alloc, z2, newVar, newRow]
theorem box_ok (R : HRel w base F0 ρ H) (hb : base ≤ w.heap.size) {nid : Nat} (hn : ∀ B, H[nid]? = some B → B = .no) {ty : TypeId} {d : D} {x : Value} (hx : RepD w base (Fb F0 ρ H) ρ H d x) {cs : List C} (hc : dcells d = some cs) :
    Good P base F0 w ρ H (Instr.box ty x) { v := .one (.ptr nid 0 0), upd := [(nid, .own cs.length [cs])] } := by
  obtain ⟨hr, hone⟩ := dcells_rep hx hc
  refine good_new R hb hn (arr := x.cells) (ty := ty) (n := 0) (by have := hr.1; simp at this ⊢; omega) (fun n e he => ?_) (fun n m e c he hm => ?_) ?_ (.inl ⟨rfl, rfl⟩)
  · cases n with
    | zero => simp at he; subst he; rfl
    | succ n => simp at he
  · cases n with
    | zero =>
      simp at he; subst he
      obtain ⟨y, g1, g2⟩ := hr.2 m c hm
      exact ⟨y, by simpa using g1, g2⟩
    | succ n => simp at he
  · simp [Instr.box, newVar, newRow]
theorem zflat_rep (h : TiOk P ti) {ty : TypeId} {i : TI} (ht : ti ty = some i) {F : Nat → Prop} {z : Value} (hz : z.cells.toList = i.zero) (n : Nat) : RepCs w base F ρ H (zflat i n) ((Array.range (n * i.size)).map (z.cells[· % z.cells.size]!)).toList := by
  have hl := (h.zero ty i ht).2.1
  have hs : z.cells.size = i.size := by rw [← hl, ← hz]; simp
  refine ⟨by simp [zflat], fun m c hm => ?_⟩
  simp only [zflat, List.getElem?_map, Option.map_eq_some_iff] at hm
  obtain ⟨q, h1, rfl⟩ := hm
  obtain ⟨hq, h2⟩ := List.getElem?_eq_some_iff.1 h1
  simp at hq h2
  subst h2
  have hpos : 0 < i.size := by
    rcases Nat.eq_zero_or_pos i.size with h0 | h0
    · rw [h0] at hq; simp at hq
    · exact h0
  have hmod : m % i.size < i.zero.length := by rw [hl]; exact Nat.mod_lt _ hpos
  refine ⟨i.zero[m % i.size], ?_, ?_⟩
  · have hlt : m % i.size < z.cells.size := by rw [hs]; exact Nat.mod_lt _ hpos
    have e : z.cells[m % i.size]! = i.zero[m % i.size] := by
      rw [getElem!_pos z.cells _ hlt]
      have : z.cells[m % i.size]? = some i.zero[m % i.size] := by rw [← Array.getElem?_toList, hz]; simp [hmod]
      rw [Array.getElem?_eq_getElem hlt] at this
      exact Option.some.inj this
    simp [hq, hs, e]
  · have e : (zrow i).getD (m % i.size) (.p true (.v .nilFunc)) = zeroC i.zero[m % i.size] := by simp [zrow, List.getD_eq_getElem?_getD, hmod]
    rw [e]
    exact rep_zero ((h.zero ty i ht).1 _ (List.getElem_mem _))
theorem buildSlice_ok (h : TiOk P ti) (R : HRel w base F0 ρ H) (hb : base ≤ w.heap.size) {nid : Nat} (hn : ∀ B, H[nid]? = some B → B = .no) {ty e : TypeId} {i te : TI} (ht : ti ty = some i) (hd : i.desc = .slice e) (hte : ti e = some te) {len : Nat}
    (hlen : len * te.size ≤ 2 ^ 24) {ps : List (Nat × D)} {vs : List (Nat × Value)} (hp : RepPs w base (Fb F0 ρ H) ρ H ps vs) {cs : List C} (hf : Ev.fill (fun i => some (i * te.size, te.size)) (zflat te len) ps = some cs) {es : List (List C)} (he : rowsOf te.size cs len = some es) :
    Good P base F0 w ρ H (Instr.buildSlice ty len vs.toArray) { v := .one (.own nid 0 len), upd := [(nid, .own te.size es)] } := by
  obtain ⟨z, z1, z2⟩ := zero_run h hte
  obtain ⟨arr', f1, f2⟩ := fill_ok ps vs (zflat te len) cs ((Array.range (len * te.size)).map (z.cells[· % z.cells.size]!)) hp (zflat_rep h hte z1 len) hf
  obtain ⟨r1, r2⟩ := rowsOf_some he
  have hu := run_underlying (h.und ty i ht) w
  rw [hd] at hu
  have hs := size_run h hte w
  have hsz : len * te.size ≤ arr'.size := by
    rcases Nat.eq_zero_or_pos len with h0 | h0
    · subst h0; simp
    · obtain ⟨er, hr⟩ : ∃ er, es[len - 1]? = some er := ⟨es[len - 1], by simp⟩
      have := (cut_some (r2 _ _ hr)).2.1
      have hl := f2.1
      simp at hl
      rw [← hl]
      have e3 : (len - 1) * te.size + te.size = len * te.size := by
        conv => rhs; rw [show len = (len - 1) + 1 by omega, Nat.add_mul, Nat.one_mul]
      omega
  refine good_new R hb hn (arr := arr') (ty := e) (n := len) (by rw [r1]; exact hsz) (fun n e' he' => (cut_some (r2 n e' he')).1) (fun n m e' c he' hm => ?_) ?_ (.inr ⟨rfl, rfl, hsz⟩)
  · obtain ⟨c1, c2, c3⟩ := cut_some (r2 n e' he')
    have hlt := (List.getElem?_eq_some_iff.1 hm).1
    rw [c3 m (by omega)] at hm
    obtain ⟨y, g1, g2⟩ := f2.2 _ c hm
    exact ⟨y, by simpa using g1, g2⟩
  · have h24 : ¬ (16777216 < len * te.size) := by have : (2 : Nat) ^ 24 = 16777216 := by decide
                                                  omega
    by_cases hz : len * te.size = 0
    · have e0 : (Array.range (len * te.size)).map (z.cells[· % z.cells.size]!) = #[] := by simp [hz]
      rw [e0] at f1
      simp [Instr.buildSlice, hu, hs, h24, hz, newRow, Array.range_zero', f1]
    · simp [Instr.buildSlice, hu, hs, h24, hz, newRow, z2, f1]
theorem makeSlice_ok (h : TiOk P ti) (R : HRel w base F0 ρ H) (hb : base ≤ w.heap.size) {nid : Nat} (hn : ∀ B, H[nid]? = some B → B = .no) {ty e : TypeId} {i te : TI} (ht : ti ty = some i) (hd : i.desc = .slice e) (hte : ti e = some te) {n : Nat} (hbd : n ≤ bound) {kl kc : IntKind} :
    Good P base F0 w ρ H (Instr.makeSlice ty (.int kl (n : Int)) (.int kc (n : Int))) { v := .one (.own nid 0 n), upd := [(nid, .own te.size (List.replicate n (zrow te)))] } := by
  obtain ⟨o, z, g1, g2, g3, g4, g5⟩ := h.info e te hte
  have hu := h.und ty i ht
  rw [hd] at hu
  have hl := (h.zero e te hte).2
  unfold bound at hbd
  have hby : (o.bytes : Int) * (n : Int) ≤ 281474976710656 := by
    have : o.bytes * n ≤ 65536 * 2 ^ 30 := Nat.mul_le_mul (by omega) hbd
    have e1 : (65536 : Nat) * 2 ^ 30 = 70368744177664 := by decide
    have : ((o.bytes * n : Nat) : Int) ≤ 281474976710656 := by omega
    rwa [Int.natCast_mul] at this
  have hrun := run_make (P := P) w ty e o z hu g1 g2 kl kc n n (by omega) (Int.le_refl _) hby (by omega)
  simp only [Int.toNat_natCast] at hrun
  have hzr := zero_rep (w := w) (base := base) (ρ := ρ) (H := H) h hte (F := Fb F0 ρ H)
  have hs : z.cells.size = te.size := by rw [← hl.1, ← g3]; simp
  refine good_new R hb hn (n := n) ?_ (fun m e' he' => ?_) (fun m j e' c he' hj => ?_) hrun (.inr ⟨rfl, rfl, ?_⟩)
  · simp [size_madeCells, g4]
  · rw [List.getElem?_replicate] at he'
    split at he'
    · cases he'; simp [zrow, hl.1]
    · simp at he'
  · rw [List.getElem?_replicate] at he'
    split at he'
    · rename_i hm
      cases he'
      obtain ⟨y, k1, k2⟩ := hzr.2 j c hj
      refine ⟨y, ?_, k2⟩
      have hjl := (List.getElem?_eq_some_iff.1 k1).1
      rw [hl.1] at hjl
      have hlt : m * te.size + j < n * o.size := by
        rw [g4]
        have : (m + 1) * te.size ≤ n * te.size := Nat.mul_le_mul_right _ hm
        rw [Nat.add_mul] at this
        omega
      have hmod : (m * te.size + j) % z.cells.size = j := by rw [hs, Nat.mul_comm, Nat.mul_add_mod, Nat.mod_eq_of_lt hjl]
      have e : z.cells[j]! = y := by
        have hlt2 : j < z.cells.size := by omega
        rw [getElem!_pos z.cells _ hlt2]
        rw [← g3, Array.getElem?_toList, Array.getElem?_eq_getElem hlt2] at k1
        exact Option.some.inj k1
      simp [madeCells, hlt, hmod, e]
    · simp at he'
  · simp [size_madeCells, g4]
end
end Ev
end Go.Proofs.YtjomjfjbpcafhaaDoor
