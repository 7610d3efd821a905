/- The evaluator is right at addresses, parts, new blocks and appends. No program is named here. -/
import Derived.Test.YtjomjfjbpcafhaaDoorEv5
namespace Go.Proofs.YtjomjfjbpcafhaaDoor
namespace Ev
open Go Go.RowKit
set_option linter.unusedVariables false
set_option linter.unusedSimpArgs false
section
variable {P : Program} {ti : TypeId → Option TI} {w : World} {base : Nat} {F0 : Nat → Prop} {ρ : Nat → Nat} {H : Heap}

theorem fieldOf_run {t : TI} {f : Nat} {fd : Field} (h : fieldOf t f = some fd) : ∃ fs, t.desc = .struct fs ∧ fs[f]? = some fd := by
  unfold fieldOf at h
  split at h
  · rename_i fs hd
    exact ⟨fs, hd, by simpa using h⟩
  · simp at h
theorem fieldAddr_ok (h : TiOk P ti) {ty : TypeId} {i ft : TI} (ht : ti ty = some i) {f : Nat} {fd : Field} (hf : fieldOf i f = some fd) (hft : ti fd.type = some ft) (hz : ¬ ft.size = 0) (a : Addr) (w : World) :
    (Instr.fieldAt ty (.pointer (some a)) f).run P w = .ok (.pointer (some (a.add fd.offset))) w := by
  obtain ⟨fs, h1, h2⟩ := fieldOf_run hf
  have hs := size_run h hft w
  have hu := run_underlying (h.und ty i ht) w
  rw [h1] at hu
  simp [Instr.fieldAt, hu, h2, Instr.sureAddr, fieldPlace, hs, hz]
theorem rep_ptr_add {F : Nat → Prop} {k i j n : Nat} {a : Addr} (h : RepC w base F ρ H (.ptr k i j) (.pointer (some a))) : RepC w base F ρ H (.ptr k i (j + n)) (.pointer (some (a.add n))) := by
  cases h with
  | ptr k i j a hk ha =>
    refine .ptr k i (j + n) _ hk fun sz es hb => ?_
    rw [ha sz es hb, Addr.add_mid, Nat.add_assoc]
theorem rep_iptr_add {F : Nat → Prop} {fr : Bool} {sz : Nat} {l : List (List T)} {i j n : Nat} {a : Addr} (h : RepC w base F ρ H (.iptr fr sz l i j) (.pointer (some a))) :
    RepC w base F ρ H (.iptr fr sz l i (j + n)) (.pointer (some (a.add n))) := by
  cases h with
  | iptr fr sz l i j a y hm hr =>
    refine .iptr fr sz l i (j + n) _ (fun m => y (n + m)) (fun e j' t h1 h2 => ?_) fun e j' t h1 h2 => hr e (n + j') t h1 (by rw [← Nat.add_assoc]; exact h2)
    obtain ⟨g1, g2, g3⟩ := hm e (n + j') t h1 (by rw [← Nat.add_assoc]; exact h2)
    have hbk : (a.add n).block = a.block := by unfold Addr.add; split <;> rfl
    rw [hbk, add_add]
    exact ⟨g1, g2, g3⟩
theorem elemOf_some {t : TI} {e : TypeId} (h : elemOf t = some e) : t.desc = .slice e := by
  unfold elemOf at h
  split at h
  · simp only [Option.some.injEq] at h; subst h; assumption
  · simp at h

theorem indexSlice_run (h : TiOk P ti) {ty e : TypeId} {i : TI} {n c : Nat} (ht : ti ty = some i) (hd : i.desc = .slice e) {te : TI} (hte : ti e = some te) {a : Addr} {k : IntKind} {x : Nat} (hx : x < n) (w : World) :
    (Instr.indexAt ty (.slice (some a) n c) (.int k (x : Int))).run P w = .ok (.pointer (some (a.add (x * te.size)))) w := by
  have hu := run_underlying (h.und ty i ht) w
  rw [hd] at hu
  have hs := size_run h hte w
  have h1 : (0 : Int) ≤ (x : Int) ∧ (x : Int) < (n : Int) := by omega
  simp [Instr.indexAt, asIntOf, hu, h1, hs]
  intro hh; omega
theorem indexArray_run (h : TiOk P ti) {ty e : TypeId} {i : TI} {n : Nat} (ht : ti ty = some i) (hd : i.desc = .array n e) {te : TI} (hte : ti e = some te) {a : Addr} {k : IntKind} {x : Nat} (hx : x < n) (w : World) :
    (Instr.indexAt ty (.pointer (some a)) (.int k (x : Int))).run P w = .ok (.pointer (some (a.add (x * te.size)))) w := by
  have hu := run_underlying (h.und ty i ht) w
  rw [hd] at hu
  have hs := size_run h hte w
  have h1 : (0 : Int) ≤ (x : Int) ∧ (x : Int) < (n : Int) := by omega
  simp [Instr.indexAt, asIntOf, hu, h1, hs, Instr.sureAddr]
  intro hh; omega

theorem rep_elem {F : Nat → Prop} {fr nn : Bool} {sz : Nat} {l : List (List T)} {a : Addr} {n c x : Nat} (h : RepC w base F ρ H (.p fr (.s nn sz l)) (.slice (some a) n c)) :
    RepC w base F ρ H (.iptr fr sz l x 0) (.pointer (some (a.add (x * sz)))) := by
  cases h with
  | p fr t y h =>
    cases h with
    | s nn sz l a c y hn hc h0 hl hm hr =>
      refine .iptr fr sz l x 0 _ (fun j => y x j) (fun e j' t h1 h2 => ?_) fun e j' t h1 h2 => hr x e j' t h1 (by simpa using h2)
      obtain ⟨b, hb, g1, g2, g3⟩ := hm x e j' t h1 (by simpa using h2)
      cases hb
      have hbk : (a.add (x * sz)).block = a.block := by unfold Addr.add; split <;> rfl
      rw [hbk, add_add]
      exact ⟨g1, g2, g3⟩
theorem rep_sl {F : Nat → Prop} {fr nn : Bool} {sz : Nat} {l : List (List T)} {y : Value} (h : RepC w base F ρ H (.p fr (.s nn sz l)) y) : ∃ a c, y = .slice a l.length c ∧ nn = a.isSome ∧ l.length ≤ c ∧ (a = none → c = 0) := by
  cases h with
  | p fr t y h => cases h with | s nn sz l a c y hn hc h0 hl hm hr => exact ⟨a, c, rfl, hn, hc, h0⟩

theorem sliceBounds_run {n c : Nat} {lo hi : Option Value} {l h' : Nat} (hlo : (lo = none ∧ l = 0) ∨ ∃ k, lo = some (.int k (l : Int))) (hhi : (hi = none ∧ h' = n) ∨ ∃ k, hi = some (.int k (h' : Int))) (h1 : l ≤ h') (h2 : h' ≤ c) (w : World) :
    (Instr.sliceBounds true n c lo hi none).run P w = .ok (l, h', c) w := by
  have b1 : ∀ k code, (Instr.sliceBound (.int k (l : Int)) h' code).run P w = .ok l w := fun k code => by
    have : (0 : Int) ≤ (l : Int) ∧ (l : Int) ≤ (h' : Int) := by omega
    simp [Instr.sliceBound, asIntOf, this]
  have b2 : ∀ k code, (Instr.sliceBound (.int k (h' : Int)) c code).run P w = .ok h' w := fun k code => by
    have : (0 : Int) ≤ (h' : Int) ∧ (h' : Int) ≤ (c : Int) := by omega
    simp [Instr.sliceBound, asIntOf, this]
  rcases hlo with ⟨rfl, rfl⟩ | ⟨kl, rfl⟩ <;> rcases hhi with ⟨rfl, rfl⟩ | ⟨kh, rfl⟩ <;> simp [Instr.sliceBounds, b1, b2]
theorem slice_run (h : TiOk P ti) {ty e : TypeId} {i : TI} (ht : ti ty = some i) (hd : i.desc = .slice e) {te : TI} (hte : ti e = some te) {a : Option Addr} {n c : Nat} {lo hi : Option Value} {l h' : Nat}
    (hlo : (lo = none ∧ l = 0) ∨ ∃ k, lo = some (.int k (l : Int))) (hhi : (hi = none ∧ h' = n) ∨ ∃ k, hi = some (.int k (h' : Int))) (h1 : l ≤ h') (h2 : h' ≤ c) (w : World) :
    (Instr.sliceAt ty (.slice a n c) lo hi none).run P w = .ok (.slice (if c = l then a else a.map (·.add (l * te.size))) (h' - l) (c - l)) w := by
  have hu := run_underlying (h.und ty i ht) w
  rw [hd] at hu
  have hs := size_run h hte w
  have hb := sliceBounds_run (P := P) (n := n) hlo hhi h1 h2 w
  simp [Instr.sliceAt, Instr.slice, hu, hb, hs]

theorem rep_cut {F : Nat → Prop} {fr nn : Bool} {sz : Nat} {l : List (List T)} {a : Option Addr} {n c x z : Nat} (h : RepC w base F ρ H (.p fr (.s nn sz l)) (.slice a n c)) (hx : x ≤ z) (hz : z ≤ n) :
    RepC w base F ρ H (.p fr (.s nn sz ((l.drop x).take (z - x)))) (.slice (if c = x then a else a.map (·.add (x * sz))) (z - x) (c - x)) := by
  cases h with
  | p fr t y h =>
    cases h with
    | s nn sz l a c y hn hc h0 hl hm hr =>
      have hlen : ((l.drop x).take (z - x)).length = z - x := by simp; omega
      have hget : ∀ (i : Nat) e, ((l.drop x).take (z - x))[i]? = some e → l[x + i]? = some e := fun i e hi => by
        rw [List.getElem?_take] at hi
        split at hi
        · rwa [List.getElem?_drop] at hi
        · simp at hi
      refine .p fr _ _ ?_
      have := RepT.s (w := w) (F := Frs F base fr) nn sz ((l.drop x).take (z - x)) (if c = x then a else a.map (·.add (x * sz))) (c - x) (fun i j => y (x + i) j) (by rw [hn]; split <;> simp) (by omega)
        (fun hh => by
          split at hh
          · omega
          · simp at hh; have := h0 hh; omega) (fun i e hi => hl _ e (hget i e hi)) (fun i e j t h1 h2 => ?_) (fun i e j t h1 h2 => hr _ e j t (hget i e h1) h2)
      · rwa [hlen] at this
      · obtain ⟨b, hb, g1, g2, g3⟩ := hm _ e j t (hget i e h1) h2
        have hi := (List.getElem?_eq_some_iff.1 h1).1
        rw [hlen] at hi
        have hcx : ¬ c = x := by omega
        refine ⟨b.add (x * sz), by simp [hcx, hb], ?_, ?_, ?_⟩
        · rwa [show (b.add (x * sz)).block = b.block by unfold Addr.add; split <;> rfl]
        · rwa [show (b.add (x * sz)).block = b.block by unfold Addr.add; split <;> rfl]
        · rw [add_add, show x * sz + (i * sz + j) = (x + i) * sz + j by rw [Nat.add_mul]; omega]
          exact g3
theorem rep_cut_own {F : Nat → Prop} {k off n m : Nat} {a : Option Addr} {c x z sz : Nat} {es : List (List C)} (hb : H[k]? = some (.own sz es)) (h : RepC w base F ρ H (.own k off n) (.slice a m c)) (hx : x < z) (hz : z ≤ n) :
    RepC w base F ρ H (.own k (off + x) (z - x)) (.slice (if c = x then a else a.map (·.add (x * sz))) (z - x) (c - x)) := by
  cases h with
  | own k off n c a hk hn ha =>
    have hcx : ¬ c = x := by omega
    simp only [hcx, if_false, Option.map_some]
    obtain ⟨g1, g2⟩ := ha _ _ hb
    refine .own k (off + x) (z - x) (c - x) _ hk (by omega) fun sz' es' hb' => ?_
    rw [hb] at hb'
    cases hb'
    rw [g1, Addr.add_mid, Nat.add_mul]
    exact ⟨rfl, by rw [show off + x + (c - x) = off + c by omega]; exact g2⟩
theorem rep_empty {F : Nat → Prop} {fr : Bool} {sz c : Nat} (a : Addr) : RepC w base F ρ H (.p fr (.s true sz [])) (.slice (some a) 0 c) :=
  .p _ _ _ (.s true sz [] (some a) c (fun _ _ => .nilFunc) rfl (Nat.zero_le _) (fun h => by cases h) (fun i e h => by simp at h) (fun i e j t h => by simp at h) fun i e j t h => by simp at h)

/-! parts of a struct or an array -/
theorem cut_rep {F : Nat → Prop} {cs r : List C} {ys : List Value} {i n : Nat} (h : RepCs w base F ρ H cs ys) (hc : cut cs i n = some r) : RepCs w base F ρ H r ((ys.drop i).take n) ∧ i + n ≤ ys.length := by
  obtain ⟨c1, c2, c3⟩ := cut_some hc
  have hl := h.1
  refine ⟨⟨by simp; omega, fun j c hj => ?_⟩, by omega⟩
  have hlt := (List.getElem?_eq_some_iff.1 hj).1
  rw [c1] at hlt
  rw [c3 j hlt] at hj
  obtain ⟨y, g1, g2⟩ := h.2 _ c hj
  exact ⟨y, by rw [List.getElem?_take, if_pos hlt, List.getElem?_drop]; exact g1, g2⟩
theorem part_run (h : TiOk P ti) {ty : TypeId} {i : TI} (ht : ti ty = some i) {F : Nat → Prop} {cs r : List C} {ys : List Value} {d : D} {off : Nat} (hr : RepCs w base F ρ H cs ys)
    (hc : cut cs off (if isAggD i.desc then i.size else 1) = some r) (ho : ofCells (isAggD i.desc) r = some d) : ∃ z, (part ty ys.toArray off).run P w = .ok z w ∧ RepD w base F ρ H d z := by
  obtain ⟨h1, h2⟩ := cut_rep hr hc
  have ha := agg_run h ht w
  have hs := size_run h ht w
  refine ⟨_, ?_, load_cells ho h1⟩
  unfold part
  cases hd : isAggD i.desc
  · rw [hd] at ha h2
    simp only [Bool.false_eq_true, if_false] at h2 ⊢
    have hlt : off < ys.length := by omega
    have e : (ys.drop off).take 1 = [ys[off]] := by rw [List.drop_eq_getElem_cons hlt]; rfl
    rw [e]
    have e2 : ys.toArray[off]? = some ys[off] := by simp [hlt]
    rw [Sem.run_bind, ha]
    simp only [Result.andThen, Bool.false_eq_true, if_false, e2]
    rfl
  · rw [hd] at ha h2
    simp only [if_true] at h2 ⊢
    rw [Sem.run_bind, ha]
    simp only [Result.andThen, if_true]
    rw [Sem.run_bind, hs]
    simp only [Result.andThen]
    rw [Sem.run_pure]
    congr 2
    apply Array.ext'
    simp [List.drop_take]
end
end Ev
end Go.Proofs.YtjomjfjbpcafhaaDoor
