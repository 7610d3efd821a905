/- Package edges: a map from pairs of numbers to wide numbers, said key by key. -/
import Derived.Maps.RangeWalk
import Derived.Maps.Ext
import Derived.WideKeyArr
import Derived.Test.YtfaddlpemhifpaaEd1
namespace Go.Proofs.Ytfaddlpemhifpaa
open Go.RowKit Go.Sort Go.WideMaps
set_option linter.unusedVariables false
set_option linter.unusedSimpArgs false
/-- A pair of ends, as a key. -/
def kl (k : Int × Int) : Lit := .string (keyBytes [.int .i64 k.1, .int .i64 k.2])
abbrev KV (k : Int × Int) : Value := .agg #[.int .i64 k.1, .int .i64 k.2]
def In2 (k : Int × Int) : Prop := In64 k.1 ∧ In64 k.2
theorem wf_i64 {x : Int} (h : In64 x) : (Lit.int .i64 x).wf = true := by
  obtain ⟨h1, h2⟩ := h
  simp [Lit.wf, IntKind.min, IntKind.max, IntKind.signed, IntKind.bits]
  omega
theorem in64_wf {x : Int} (h : (Lit.int .i64 x).wf = true) : In64 x := by
  simp [Lit.wf, IntKind.min, IntKind.max, IntKind.signed, IntKind.bits] at h
  exact ⟨by omega, by omega⟩
theorem arrK : ArrKey Try.prog 49 3 2 := ⟨Try.underlying49, by kernel_rfl, by kernel_rfl, by kernel_rfl⟩
theorem keyedK : Maps.Keyed Try.prog 49 := Maps.Keyed.of_law arrK.law
theorem types_pos : ∃ m, Try.prog.types.size = m + 1 := by
  have : 0 < Try.prog.types.size := of_decide_eq_true (by kernel_rfl)
  exact ⟨Try.prog.types.size - 1, by omega⟩
theorem keyLitsK (x y : Int) (hx : In64 x) (hy : In64 y) : Try.prog.keyLits (Try.prog.types.size + 1) 49 [.int .i64 x, .int .i64 y] = some [.int .i64 x, .int .i64 y] := by
  obtain ⟨m, hm⟩ := types_pos
  rw [hm]
  have c1 : Try.prog.cellsOf 3 = 1 := by kernel_rfl
  simp [Program.keyLits, Try.underlying49, Try.underlying3, arrK.size, c1, List.range_succ, wf_i64 hx, wf_i64 hy]
theorem keyOfK (k : Int × Int) (h : In2 k) : keyOf Try.prog 49 (KV k) = some (kl k) := by
  have h1 : Try.prog.keyType 49 = true := arrK.keyType types_pos
  have h2 : (KV k).formed Try.prog 49 = true := by simp [Value.formed, Try.underlying49, arrK.size]
  unfold keyOf
  simp only [Try.underlying49, h1, h2, Value.cells, keyLitsK k.1 k.2 h.1 h.2, Bool.and_self, if_true, Option.map_some]
  rfl
theorem keyOfK_inv {v : Value} {l : Lit} (h : keyOf Try.prog 49 v = some l) : ∃ k, v = KV k ∧ In2 k ∧ l = kl k := by
  have h0 := h
  unfold keyOf at h
  simp only [Try.underlying49] at h
  split at h
  · rename_i hf
    simp only [Bool.and_eq_true] at hf
    obtain ⟨ls, hls, rfl⟩ := Option.map_eq_some_iff.1 h
    cases v with
    | agg cs =>
      have hsz : cs.size = 2 := by
        have := hf.2
        simpa [Value.formed, Try.underlying49, arrK.size] using this
      obtain ⟨m, hm⟩ := types_pos
      rw [hm] at hls
      obtain ⟨a, b, rfl⟩ : ∃ a b, cs = #[a, b] := by
        obtain ⟨l⟩ := cs
        match l, hsz with
        | [a, b], _ => exact ⟨a, b, rfl⟩
      have c1 : Try.prog.cellsOf 3 = 1 := by kernel_rfl
      simp [Program.keyLits, Try.underlying49, Try.underlying3, arrK.size, c1, List.range_succ, Value.cells] at hls
      cases a with
      | int q n =>
        by_cases hq : q = IntKind.i64 ∧ (Lit.int IntKind.i64 n).wf = true
        · obtain ⟨rfl, hw⟩ := hq
          cases b with
          | int q2 n2 =>
            by_cases hq2 : q2 = IntKind.i64 ∧ (Lit.int IntKind.i64 n2).wf = true
            · obtain ⟨rfl, hw2⟩ := hq2
              simp [hw, hw2] at hls
              subst hls
              exact ⟨(n, n2), rfl, ⟨in64_wf hw, in64_wf hw2⟩, rfl⟩
            · simp [hw, hq2] at hls
          | _ => simp [hw] at hls
        · simp [hq] at hls
      | _ => simp at hls
    | _ => simp [Value.formed, Try.underlying49] at hf
  · cases h
theorem kl_inj {a b : Int × Int} (ha : In2 a) (hb : In2 b) (h : kl a = kl b) : a = b := by
  have h1 := keyOfK a ha
  have h2 := keyOfK b hb
  rw [h] at h1
  have := keyedK.inj h1 h2
  simp at this
  exact Prod.ext this.1 this.2

/-! ### the map, said as a function -/
abbrev KW := (Int × Int) → Option Int
def RW (v : Value) : Option (DataW Unit × List MemPlace) :=
  match v with
  | .agg cs => match cs.toList with
    | [.int .i64 h, .int .u64 l] => some (.agg [.lit (.int .i64 h), .lit (.int .u64 l)], [])
    | _ => none
  | _ => none
def dW (z : Int) : DataW Unit := .agg [.lit (.int .i64 (hi z)), .lit (.int .u64 (lo z))]
theorem RW_W (z : Int) : RW (W z) = some (dW z, []) := rfl
theorem RW_inv {v : Value} {y : DataW Unit × List MemPlace} (h : RW v = some y) : ∃ c : Int × Int, v = .agg #[.int .i64 c.1, .int .u64 c.2] ∧ y = (.agg [.lit (.int .i64 c.1), .lit (.int .u64 c.2)], []) := by
  unfold RW at h
  split at h
  · rename_i cs
    obtain ⟨cs⟩ := cs
    split at h
    · rename_i h2
      cases h
      simp at h2
      subst h2
      exact ⟨(_, _), rfl, rfl⟩
    · cases h
  · cases h
theorem RW_W_inv {v : Value} {ps : List MemPlace} {z : Int} (h : RW v = some (dW z, ps)) : v = W z := by
  obtain ⟨c, rfl, hc⟩ := RW_inv h
  simp [dW] at hc
  rw [W, hc.1.1, hc.1.2]
def FitF (D : DataW Unit) (f : KW) : Prop := ∀ k, In2 k → (Maps.has D (kl k) = (f k).isSome) ∧ (∀ z, f k = some z → ∀ zd, D.atKey (kl k) zd = dW z)
def MapF (w : World) (b n : Nat) (f : KW) : Prop := ∃ D, w.ownsMap Try.prog 49 RW b n D ∧ FitF D f
def setF (f : KW) (k : Int × Int) (z : Int) : KW := fun k' => if k' = k then some z else f k'
theorem MapF.lt {w : World} {b n : Nat} {f : KW} (h : MapF w b n f) : b < w.heap.size := by obtain ⟨D, h, _⟩ := h; exact h.lt
theorem MapF.kept {w w' : World} {b n : Nat} {f : KW} {row : Option Nat} (h : MapF w b n f) (hg : w.grownBy w' row) (hne : some b ≠ row) : MapF w' b n f := by
  obtain ⟨D, h, hF⟩ := h
  exact ⟨D, h.kept hg hne, hF⟩
theorem MapF.new (w : World) : MapF (w.alloc (.map #[] 0)) w.heap.size 0 (fun _ => none) :=
  ⟨_, World.ownsMap_made w _ _ _, fun k hk => ⟨rfl, fun z hz => by cases hz⟩⟩
theorem keyLitK {k : Int × Int} (h : In2 k) : WideAt.IsKeyLit (kl k) := keyedK.key (keyOfK k h)
theorem FitF.put {D : DataW Unit} {f : KW} (hm : Maps.IsMap D) (h : FitF D f) {k : Int × Int} (hk : In2 k) (z : Int) : FitF (D.put (kl k) (dW z)) (setF f k z) := by
  intro k' hk'
  by_cases e : k' = k
  · subst e
    refine ⟨by rw [Maps.has_put_same hm (keyLitK hk)]; simp [setF], fun z' hz' zd => ?_⟩
    simp [setF] at hz'
    rw [Maps.atKey_put_same hm (keyLitK hk), hz']
  · have hne : kl k' ≠ kl k := fun h => e (kl_inj hk' hk h)
    refine ⟨by rw [Maps.has_put_other hne]; simp [setF, e, (h k' hk').1], fun z' hz' zd => ?_⟩
    simp [setF, e] at hz'
    rw [Maps.atKey_put_other hne, (h k' hk').2 z' hz']

section
variable (w : World) {ops : Array Oper} {rest : List Oper} {o : Oper} {a : Act} {Q : Exit → Act → World → Prop}
theorem wpList_lookupF (hg : o.guard = none) (m x : Operand) (hop : o.op = Op.lookup 48 m x true) (b n : Nat) (f : KW) (k : Int × Int)
    (hm : a.eval m = .map (some b)) (hown : MapF w b n f) (hx : a.eval x = KV k) (hk : In2 k)
    (h0 : f k = none → wpList Try.prog ops Q rest (a.put o.dst (.tuple #[W 0, .bool false])) w)
    (h1 : ∀ z, f k = some z → wpList Try.prog ops Q rest (a.put o.dst (.tuple #[W z, .bool true])) w) :
    wpList Try.prog ops Q (o :: rest) a w := by
  obtain ⟨D, hown, hF⟩ := hown
  refine wpList_lookup_own_ok w hg m x _ hop 49 52 keyedK Try.underlying48 RW (z := W 0) ?_ (dW 0) [] (RW_W 0) b n D hm hown (KV k) (kl k) hx (keyOfK k hk) ?_
  · exact (Try.zeroValue52 w).trans (by rw [W, show hi 0 = 0 by decide, show lo 0 = 0 by decide])
  · intro v ps hv
    cases hf : f k with
    | none =>
      have := (hF k hk).1
      rw [hf] at this
      have ha := Maps.atKey_of_not_has (D := D) (k := kl k) (by simpa using this) (dW 0)
      rw [ha] at hv
      rw [RW_W_inv hv, this]
      exact h0 hf
    | some z =>
      have := (hF k hk).1
      rw [hf] at this
      rw [(hF k hk).2 z hf] at hv
      rw [RW_W_inv hv, this]
      exact h1 z hf
theorem wpList_updateF (hg : o.guard = none) (m x v : Operand) (hop : o.op = Op.mapUpdate 48 m x v) (b n : Nat) (f : KW) (k : Int × Int) (z : Int) (hn : n < maxLen)
    (hm : a.eval m = .map (some b)) (hown : MapF w b n f) (hx : a.eval x = KV k) (hv : a.eval v = W z) (hk : In2 k)
    (hK : ∀ w', MapF w' b (n + 1) (setF f k z) → w.grownBy w' (some b) → wpList Try.prog ops Q rest (a.put o.dst undef) w') :
    wpList Try.prog ops Q (o :: rest) a w := by
  obtain ⟨D, hown, hF⟩ := hown
  refine wpList_mapUpdate_in w hg m x v _ hop 49 52 keyedK Try.underlying48 RW b n D hm hown hn (KV k) (W z) (kl k) hx hv (keyOfK k hk) (dW z) [] (RW_W z) ?_
  intro w' hown' ht
  exact hK w' ⟨_, hown', hF.put hown.isMap hk z⟩ ht.grown
theorem wpList_lenF (hg : o.guard = none) (m : Operand) (hop : o.op = Op.call { callee := Callee.builtin Builtin.len, args := #[m], argTypes := #[48] }) (b n : Nat) (f : KW) (hm : a.eval m = .map (some b)) (hown : MapF w b n f)
    (hK : ∀ k : Nat, k ≤ n → wpList Try.prog ops Q rest (a.put o.dst (.int .i64 k)) w) : wpList Try.prog ops Q (o :: rest) a w := by
  obtain ⟨D, hown, hF⟩ := hown
  exact wpList_len_own w hg m _ hop 49 52 Try.underlying48 RW b n D hm hown (hK _ hown.size_le)
/-- The map is gone through: what has been met, and what is still to come. -/
def RangF (w : World) (b r n : Nat) (f : KW) (done : List ((Int × Int) × Int)) : Prop :=
  ∃ D left cnt, w.ranges Try.prog 49 RW b r n D left cnt ∧ FitF D f ∧ (∀ k, In2 k → (left (kl k) = true ↔ (f k).isSome = true ∧ k ∉ done.map (·.1))) ∧ (done.map (·.1)).Nodup ∧ (∀ p ∈ done, In2 p.1 ∧ f p.1 = some p.2) ∧ done.length + cnt ≤ n
theorem RangF.kept {w w' : World} {b r n : Nat} {f : KW} {done : List ((Int × Int) × Int)} {row : Option Nat} (h : RangF w b r n f done) (hg : w.grownBy w' row) (hb : some b ≠ row) (hr : some r ≠ row) : RangF w' b r n f done := by
  obtain ⟨D, left, cnt, h, h2⟩ := h
  exact ⟨D, left, cnt, h.kept hg hb hr, h2⟩
theorem RangF.left {w w' : World} {b r n : Nat} {f : KW} {done : List ((Int × Int) × Int)} {row : Option Nat} (h : RangF w b r n f done) (hg : w.grownBy w' row) (hb : some b ≠ row) (hr : some r ≠ row) : w'.rangeLeft b r = w.rangeLeft b r := by
  obtain ⟨D, left, cnt, h, h2⟩ := h
  rw [(h.kept hg hb hr).left_eq, h.left_eq]
theorem RangF.facts {w : World} {b r n : Nat} {f : KW} {done : List ((Int × Int) × Int)} (h : RangF w b r n f done) : (done.map (·.1)).Nodup ∧ (∀ p ∈ done, In2 p.1 ∧ f p.1 = some p.2) ∧ done.length ≤ n := by
  obtain ⟨D, left, cnt, h, _, _, h2, h3, h4⟩ := h
  exact ⟨h2, h3, by omega⟩
theorem RangF.lt {w : World} {b r n : Nat} {f : KW} {done : List ((Int × Int) × Int)} (h : RangF w b r n f done) : r < w.heap.size ∧ b < w.heap.size := by
  obtain ⟨D, left, cnt, h, h2⟩ := h
  exact ⟨h.lt, h.owns.lt⟩
theorem wpList_rangeF (hg : o.guard = none) (m : Operand) (hop : o.op = Op.range 48 m) (b n : Nat) (f : KW) (hm : a.eval m = .map (some b)) (hown : MapF w b n f)
    (hK : ∀ w', RangF w' b w.heap.size n f [] → w.grownBy w' none → w'.heap.size = w.heap.size + 1 → wpList Try.prog ops Q rest (a.put o.dst (.pointer (some ⟨w.heap.size, 0, none⟩))) w') :
    wpList Try.prog ops Q (o :: rest) a w := by
  obtain ⟨D, hown, hF⟩ := hown
  refine wpList_range_own w hg m _ hop 49 52 keyedK Try.underlying48 RW b n D hm hown ?_
  intro w' hr hgr hs
  refine hK w' ⟨D, _, _, hr, hF, fun k hk => ?_, by simp, by simp, by simpa using hown.size_le⟩ hgr hs
  rw [(hF k hk).1]
  simp
theorem wpList_nextF (hg : o.guard = none) (it : Operand) (hop : o.op = Op.next it false) (b r n : Nat) (f : KW) (done : List ((Int × Int) × Int)) (hit : a.eval it = .pointer (some ⟨r, 0, none⟩)) (h : RangF w b r n f done)
    (hDone : (∀ k, In2 k → ∀ z, f k = some z → (k, z) ∈ done) → wpList Try.prog ops Q rest (a.put o.dst (.tuple #[.bool false])) w)
    (hMore : ∀ (k : Int × Int) (z : Int) (w' : World), RangF w' b r n f (done ++ [(k, z)]) → w'.rangeLeft b r < w.rangeLeft b r → w.grownBy w' (some r) → w'.heap.size = w.heap.size → (Instr.entry (.pointer (some ⟨r, 0, none⟩))).run Try.prog w' = .ok (.tuple #[KV k, W z]) w' → wpList Try.prog ops Q rest (a.put o.dst (.tuple #[.bool true, KV k, W z])) w') :
    wpList Try.prog ops Q (o :: rest) a w := by
  obtain ⟨D, left, cnt, hr, hF, hl, hnd, hdn, hcn⟩ := h
  refine wpList_next_ranges w hg it hop 49 keyedK RW KV (fun c : Int × Int => .agg #[.int .i64 c.1, .int .u64 c.2]) (fun key l hkey => by obtain ⟨k, e, _⟩ := keyOfK_inv hkey; exact ⟨k, e⟩) (fun v y hv => by obtain ⟨c, e, _⟩ := RW_inv hv; exact ⟨c, e⟩) b r n D left cnt hit hr ?_ ?_
  · intro _ hno
    refine hDone fun k hk z hz => ?_
    have h1 := hl k hk
    rw [hno] at h1
    have h2 : k ∈ done.map (·.1) := Decidable.byContradiction fun hn => by
      have := h1.2 ⟨by rw [hz]; rfl, hn⟩
      cases this
    obtain ⟨p, hp, rfl⟩ := List.mem_map.1 h2
    have h3 := (hdn p hp).2
    rw [hz] at h3
    cases h3
    exact hp
  · intro k c l y w' cnt' hkey hlk hy hat hrg hlt hgr hsz hen
    obtain ⟨k', e1, hk, rfl⟩ := keyOfK_inv hkey
    obtain rfl : k = k' := by simp at e1; exact Prod.ext e1.1 e1.2
    have hk1 := (hl k hk).1 hlk
    obtain ⟨z, hz⟩ := Option.isSome_iff_exists.1 hk1.1
    have h4 := (hF k hk).2 z hz (dW z)
    rw [hat] at h4
    obtain ⟨c', e2, e3⟩ := RW_inv hy
    have e4 : (.agg #[.int .i64 c.1, .int .u64 c.2] : Value) = W z := RW_W_inv (ps := y.2) (by rw [hy, ← h4])
    rw [e4] at hen ⊢
    refine hMore k z w' ⟨D, _, cnt', hrg, hF, fun k' hk' => ?_, ?_, ?_, by simp; omega⟩ (by rw [hrg.left_eq, hr.left_eq]; exact hlt) hgr hsz hen
    · by_cases e : k' = k
      · subst e
        rw [WideAt.sameKey_self (keyLitK hk)]
        simp
      · rw [Maps.sameKey_ne (fun h => e (kl_inj hk' hk h))]
        have := hl k' hk'
        simp [e] at this ⊢
        exact this
    · rw [List.map_append, List.nodup_append]
      refine ⟨hnd, by simp, ?_⟩
      intro x hx y hy e
      simp at hy
      subst hy; subst e
      exact hk1.2 hx
    · intro p hp
      rcases List.mem_append.1 hp with hp | hp
      · exact hdn p hp
      · simp at hp
        subst hp
        exact ⟨hk, hz⟩
end
end Go.Proofs.Ytfaddlpemhifpaa
