/- Package flags: sets without a place; sets that grow. -/
import Derived.Laws.AppendOwnNone
import Derived.Test.YtccgpjhfgmonpaaDoorFl3
namespace Go.Proofs.YtccgpjhfgmonpaaDoor
open Go.RowKit Go.Sort
set_option linter.unusedVariables false

set_option maxRecDepth 100000 in
set_option maxHeartbeats 1000000 in
theorem drop_any (a : Option Addr) (n c : Nat) (p : Nat → Bool) (x : Int) (w : World) (hr : RdW w a n (wd p)) (hn : n ≤ 100000) (hc : n ≤ c) (hx : x ≤ 9223372036854775807) :
    Calls Tryd.prog 23 #[.slice a n c, .int .i64 x] w fun e w' => ∃ g, e = .returned (.slice (some ⟨g, 0, none⟩) n n) ∧ w.heap.size ≤ g ∧ CellsAt w' g 48 (cellsW (wd (dropP p x)) n).toArray ∧ Below w.heap.size w w' := by
  cases hin : inB n x
  · have HW := Lib.hid (fun W => within_f a n c x W hin hx)
    have HO := Lib.hid (fun i (hi : i < n) => wd_drop_out p (x := x) (n := n) (of_decide_eq_false hin) hi)
    clear hin
    go_enter Tryd.func23, Tryd.ntmps23
    go_wp2_with fail
    refine (clonew_any a n c _ _ hr hn hc).mono ?_
    rintro e w1 ⟨g, rfl, hg, hC, hb⟩
    go_wp2_with fail
    refine (HW.out _).mono ?_
    rintro e w2 ⟨rfl, rfl⟩
    go_wp2
    go_ret
    exact ⟨g, rfl, hg, by rw [← cellsW_congr HO.out]; exact hC, hb⟩
  · obtain ⟨h1, h2⟩ := of_decide_eq_true hin
    obtain ⟨y, rfl⟩ : ∃ y : Nat, x = (y : Int) := ⟨x.toNat, by omega⟩
    have hy : y / 64 < n := by omega
    have HW := Lib.hid (fun W => within_t a n c y W hin hn)
    have HB := Lib.hid (fun W => bit_any y (by omega) W)
    have HV := Lib.hid (andNot_drop p y)
    have HE := Lib.hid (fun i => wd_drop_at p y i)
    have h3 : (y : Int) / 64 < (n : Int) := by omega
    have h5 : ((y : Int) / 64).toNat = y / 64 := by omega
    have h6 : (0 : Int) ≤ (y : Int) / 64 := by omega
    clear hin
    go_enter Tryd.func23, Tryd.ntmps23
    go_wp2_with fail
    refine (clonew_any a n c _ _ hr hn hc).mono ?_
    rintro e w1 ⟨g, rfl, hg, hC, hb⟩
    have hcell : w1.cell? ⟨g, y / 64, none⟩ = some (.int .u64 (wd p (y / 64) : Nat)) := by rw [hC.cell]; simpa using cellsW_at (wd p) n _ hy
    have hfr := hC.frozen (y / 64)
    have kg : Has w1 g := hC.lt
    obtain ⟨V, hV⟩ : ∃ V, V = wd p (y / 64) := ⟨_, rfl⟩
    rw [← hV] at hcell HV
    obtain ⟨B, hB⟩ : ∃ B, B = 2 ^ (y % 64) := ⟨_, rfl⟩
    rw [← hB] at HB HV
    clear hV hB
    go_wp2_with fail
    refine (HW.out _).mono ?_
    rintro e w2 ⟨rfl, rfl⟩
    go_wp2_with fail
    refine wp_region_grown_tail 9 (by kernel_rfl) (by kernel_rfl) ?_
    simp only [List.take_succ_cons, List.take_zero, List.drop_succ_cons, List.drop_zero]
    repeat (go_big_quiet_step (first
      | (go_at_call 49; exact Calls.regrown_of ((HB.out _).mono fun _ _ ⟨h1, h2⟩ => ⟨h1, h2 ▸ Below.refl _ _⟩))))
    refine wpQuiet_nil ?_
    rintro _ ⟨⟨d3, o3⟩, rfl⟩
    have hC2 := hC.below (below_regrown w1 d3 o3)
    have hb2 := hb.trans ((below_regrown w1 d3 o3).mono hb.size)
    generalize grow (redrawn w1 d3) o3 = U at hC2 hb2 ⊢
    clear hC hcell hfr kg
    have hcell : U.cell? ⟨g, y / 64, none⟩ = some (.int .u64 (wd p (y / 64) : Nat)) := by rw [hC2.cell]; simpa using cellsW_at (wd p) n _ hy
    have hfr := hC2.frozen (y / 64)
    go_wp2
    go_ret
    refine ⟨g, rfl, hg, ?_, hb2.setCell hg _⟩
    have := hC2.set (y / 64) (.int .u64 (bits .andNot .u64 V B))
    rw [HV.out, cellsW_set, cellsW_congr (fun i _ => HE.out i)] at this
    rw [HV.out]
    exact this

/-- Words of one's own. -/
structure OwW (base : Nat) (W : World) (a : Option Addr) (n c : Nat) (F : Nat → Nat) : Prop where
  le : n ≤ c
  nil : a = none → c = 0 ∧ n = 0
  own : ∀ b, a = some b → ∃ g cur, b = ⟨g, 0, none⟩ ∧ base ≤ g ∧ CellsAt W g 48 cur ∧ ∀ i, i < n → cur[i]? = some (.int .u64 (F i : Nat))
  bd : ∀ i, i < n → F i < 18446744073709551616
theorem OwW.rd {base : Nat} {W : World} {a : Option Addr} {n c : Nat} {F : Nat → Nat} (h : OwW base W a n c F) : RdW W a n F := by
  intro i hi
  match a, h with
  | none, h => have := (h.nil rfl).2; omega
  | some b, h =>
    obtain ⟨g, cur, rfl, h1, h2, h3⟩ := h.own b rfl
    exact ⟨_, rfl, h2.lt, by rw [addr0, h2.cell, h3 i hi], h.bd i hi⟩
theorem OwW.below {base : Nat} {W W' : World} {a : Option Addr} {n c : Nat} {F : Nat → Nat} (h : OwW base W a n c F) (hb : Below W.heap.size W W') : OwW base W' a n c F :=
  ⟨h.le, h.nil, fun b e => by obtain ⟨g, cur, h0, h1, h2, h3⟩ := h.own b e; exact ⟨g, cur, h0, h1, h2.below hb, h3⟩, h.bd⟩
theorem OwW.lower {base base' : Nat} {W : World} {a : Option Addr} {n c : Nat} {F : Nat → Nat} (h : OwW base W a n c F) (hb : base' ≤ base) : OwW base' W a n c F :=
  ⟨h.le, h.nil, fun b e => by obtain ⟨g, cur, h0, h1, h2, h3⟩ := h.own b e; exact ⟨g, cur, h0, by omega, h2, h3⟩, h.bd⟩
theorem OwW.congr {base : Nat} {W : World} {a : Option Addr} {n c : Nat} {F G : Nat → Nat} (h : OwW base W a n c F) (hk : ∀ i, i < n → F i = G i) : OwW base W a n c G :=
  ⟨h.le, h.nil, fun b e => by obtain ⟨g, cur, h0, h1, h2, h3⟩ := h.own b e; exact ⟨g, cur, h0, h1, h2, fun i hi => by rw [← hk i hi]; exact h3 i hi⟩, fun i hi => by rw [← hk i hi]; exact h.bd i hi⟩
theorem OwW.set {base : Nat} {W : World} {g n c : Nat} {F : Nat → Nat} (h : OwW base W (some ⟨g, 0, none⟩) n c F) {j x : Nat} (hx : x < 18446744073709551616) :
    OwW base (W.setCell ⟨g, j, none⟩ (.int .u64 (x : Int))) (some ⟨g, 0, none⟩) n c (fun i => if i = j then x else F i) := by
  obtain ⟨g', cur, e, h1, h2, h3⟩ := h.own _ rfl
  cases e
  refine ⟨h.le, fun e => (by cases e), fun b e => ?_, fun i hi => (by split; exact hx; exact h.bd i hi)⟩
  cases e
  refine ⟨g, _, rfl, h1, h2.set j _, fun i hi => ?_⟩
  have hl : i < cur.size := (Array.getElem?_eq_some_iff.1 (h3 i hi)).1
  by_cases e : i = j
  · subst e; rw [Array.getElem?_setIfInBounds_self_of_lt hl]; simp
  · rw [Array.getElem?_setIfInBounds_ne (Ne.symm e), h3 i hi]; simp [e]
theorem owW_cells {base : Nat} {W : World} {g n : Nat} {F : Nat → Nat} (h : CellsAt W g 48 (cellsW F n).toArray) (hg : base ≤ g) (hF : ∀ i, i < n → F i < 18446744073709551616) : OwW base W (some ⟨g, 0, none⟩) n n F :=
  ⟨Nat.le_refl _, fun e => (by cases e), fun b e => by cases e; exact ⟨g, _, rfl, hg, h, fun i hi => by simpa using cellsW_at F n i hi⟩, hF⟩
theorem owW_row {base : Nat} {W : World} {v : Value} {n : Nat} {F : Nat → Nat} (h : W.ownsRow base 48 1 v n (cellsW F n)) (hF : ∀ i, i < n → F i < 18446744073709551616) : ∃ a c, v = .slice a n c ∧ OwW base W a n c F := by
  have hcell := fun (g cap : Nat) (hv : v = .slice (some ⟨g, 0, none⟩) n cap) i hi => World.ownsRow.cellAt (hv ▸ h) i hi
  obtain ⟨hl, ⟨rfl, h0⟩ | ⟨g, cap, cur, rfl, h1, h2, h3, h4, h5, h6⟩⟩ := h
  · subst h0
    exact ⟨none, 0, rfl, Nat.le_refl _, fun _ => ⟨rfl, rfl⟩, fun b e => (by cases e), fun i hi => absurd hi (Nat.not_lt_zero _)⟩
  · refine ⟨_, cap, rfl, h3, fun e => (by cases e), fun b e => ?_, hF⟩
    cases e
    refine ⟨g, _, rfl, h1, h2, fun i hi => ?_⟩
    have := hcell g cap rfl i (by omega)
    rw [show W.cell? ⟨g, i, none⟩ = _ from CellsAt.cell h2 i, cellsW_at _ _ _ hi] at this
    exact this

theorem wpList_append_none_rdW {w : World} {ops : Array Oper} {rest : List Oper} {o : Oper} {a : Act} {Q : Exit → Act → World → Prop} (hgd : o.guard = none) (s x : Operand)
    (ho : o.op = .call { callee := .builtin .append, args := #[s, x], argTypes := #[22, 22] }) (base : Nat) (hs : a.eval s = .slice none 0 0)
    (ad : Option Addr) (m c : Nat) (G : Nat → Nat) (hx : a.eval x = .slice ad m c) (hr : RdW w ad m G) (hz : ad = none → c = 0 ∧ m = 0) (hnm : m ≤ 100000) (hbase : base ≤ w.heap.size)
    (h : ∀ a' c' w', OwW base w' a' m c' G → Below w.heap.size w w' → wpList Tryd.prog ops Q rest (a.put o.dst (.slice a' m c')) w') : wpList Tryd.prog ops Q (o :: rest) a w := by
  obtain ⟨i0, hi0, hz0, hz1, hz2⟩ := info_parts infoWord
  have hown : w.ownsRow base 48 1 (.slice none 0 0) 0 [] := World.ownsRow_nil w base _ _
  match ad, hr, hz, hx with
  | none, hr, hz, hx =>
    obtain ⟨rfl, rfl⟩ := hz rfl
    exact wpList_append_own_none hgd s x 22 ho base 48 i0 1 Tryd.underlying22 hi0 (.slice none 0 0) 0 _ hs hown hx (h none 0 w ⟨Nat.le_refl _, fun _ => ⟨rfl, rfl⟩, fun b e => (by cases e), fun i hi => absurd hi (Nat.not_lt_zero _)⟩ (Below.refl _ w))
  | some b, hr, hz, hx =>
    have hnews : ∀ j u, (cellsW G m)[j]? = some u → w.cell? (b.add j) = some u := by
      intro j u hj
      have hj' : j < m := by have := (List.getElem?_eq_some_iff.1 hj).1; rwa [cellsW_len] at this
      rw [cellsW_at _ _ _ hj'] at hj
      cases hj
      obtain ⟨b', hb', _, h2, _⟩ := hr j hj'
      cases hb'
      exact h2
    refine wpList_append_own w hgd s x 22 ho base 48 i0 (.int .u64 0) 1 8 Tryd.underlying22 hi0 hz0 hz1 hz2 rfl (by decide) (.slice none 0 0) 0 [] hs hown b m c (cellsW G m) hx (by rw [cellsW_len]; omega) hnews (cellsW_one _ _) (by unfold maxLen; omega) (by omega) hbase ?_
    intro v' w' hown' hgrow _
    rw [Nat.zero_add, List.nil_append] at hown'
    obtain ⟨a', c', rfl, ho'⟩ := owW_row hown' (fun i hi => by obtain ⟨_, _, _, _, h⟩ := hr i hi; exact h)
    exact h a' c' w' ho' (below_of_grownNone hgrow)

set_option maxRecDepth 100000 in
set_option maxHeartbeats 1000000 in
theorem rset_any (one : Bool) (a : Option Addr) (n c : Nat) (p : Nat → Bool) (x : Int) (w : World) (hr : RdW w a n (wd p)) (hz : a = none → c = 0 ∧ n = 0) (hn : n ≤ 100000) (hx : x ≤ 9223372036854775807) :
    Calls Tryd.prog 52 #[.slice a n c, .int .i64 x, .bool one] w fun e w' => ∃ a' c', e = .returned (.slice a' n c') ∧ OwW w.heap.size w' a' n c' (wd (if one = true then putP p x else dropP p x)) ∧ Below w.heap.size w w' := by
  cases hin : inB n x
  · have h' := of_decide_eq_false hin
    clear hin
    cases one
    · have HO := Lib.hid (fun i (hi : i < n) => wd_drop_out p h' hi)
      by_cases h1 : 0 ≤ x
      · have h3 : ¬ x / 64 < (n : Int) := by omega
        clear h'
        go_enter Tryd.func52, Tryd.ntmps52
        go_wp2_with (refine wpList_append_none_rdW rfl _ _ rfl w.heap.size rfl a n c _ rfl hr hz hn (Nat.le_refl _) ?_; intro a' c' w1 ho hb)
        go_ret
        exact ⟨a', c', rfl, ho.congr HO.out, hb⟩
      · have h2 : x < 0 := by omega
        clear h'
        go_enter Tryd.func52, Tryd.ntmps52
        go_wp2_with (refine wpList_append_none_rdW rfl _ _ rfl w.heap.size rfl a n c _ rfl hr hz hn (Nat.le_refl _) ?_; intro a' c' w1 ho hb)
        go_ret
        exact ⟨a', c', rfl, ho.congr HO.out, hb⟩
    · have HO := Lib.hid (fun i (hi : i < n) => wd_put_out p h' hi)
      by_cases h1 : 0 ≤ x
      · have h3 : ¬ x / 64 < (n : Int) := by omega
        clear h'
        go_enter Tryd.func52, Tryd.ntmps52
        go_wp2_with (refine wpList_append_none_rdW rfl _ _ rfl w.heap.size rfl a n c _ rfl hr hz hn (Nat.le_refl _) ?_; intro a' c' w1 ho hb)
        go_ret
        exact ⟨a', c', rfl, ho.congr HO.out, hb⟩
      · have h2 : x < 0 := by omega
        clear h'
        go_enter Tryd.func52, Tryd.ntmps52
        go_wp2_with (refine wpList_append_none_rdW rfl _ _ rfl w.heap.size rfl a n c _ rfl hr hz hn (Nat.le_refl _) ?_; intro a' c' w1 ho hb)
        go_ret
        exact ⟨a', c', rfl, ho.congr HO.out, hb⟩
  · obtain ⟨h1, h2⟩ := of_decide_eq_true hin
    obtain ⟨y, rfl⟩ : ∃ y : Nat, x = (y : Int) := ⟨x.toNat, by omega⟩
    have hy : y / 64 < n := by omega
    have HV := Lib.hid (or_put p y)
    have HU := Lib.hid (andNot_drop p y)
    have HE := Lib.hid (fun i => wd_put_at p y i)
    have HD := Lib.hid (fun i => wd_drop_at p y i)
    have hsh := one_shl y
    have h3 : (y : Int) / 64 < (n : Int) := by omega
    have h5 : ((y : Int) / 64).toNat = y / 64 := by omega
    have h6 : (0 : Int) ≤ (y : Int) / 64 := by omega
    have e2 : ((y : Int) % 64).toNat = y % 64 := by omega
    obtain ⟨V, hV⟩ : ∃ V, V = wd p (y / 64) := ⟨_, rfl⟩
    rw [← hV] at HV HU
    obtain ⟨B, hB⟩ : ∃ B, B = 2 ^ (y % 64) := ⟨_, rfl⟩
    rw [← hB] at HV HU hsh
    have HVV := Lib.hid hV
    clear hB hin hV
    cases one
    · go_enter Tryd.func52, Tryd.ntmps52
      go_wp2_with (refine wpList_append_none_rdW rfl _ _ rfl w.heap.size rfl a n c _ rfl hr hz hn (Nat.le_refl _) ?_; intro a' c' w1 ho hb; obtain ⟨b', rfl, hb'l, hcell, _⟩ := ho.rd (y / 64) hy; obtain ⟨g, cur, rfl, hg, hC, hcur⟩ := ho.own _ rfl; rw [addr0, ← HVV.out] at hcell; have hfr := hC.frozen (y / 64); have HC := Lib.hid hC; clear hC hcur)
      go_ret
      refine ⟨_, c', rfl, ?_, hb.setCell hg _⟩
      have := ho.set (j := y / 64) (wd_lt (dropP p y) (y / 64))
      rw [← HU.out] at this
      exact this.congr (fun i _ => HD.out i)
    · go_enter Tryd.func52, Tryd.ntmps52
      go_wp2_with (refine wpList_append_none_rdW rfl _ _ rfl w.heap.size rfl a n c _ rfl hr hz hn (Nat.le_refl _) ?_; intro a' c' w1 ho hb; obtain ⟨b', rfl, hb'l, hcell, _⟩ := ho.rd (y / 64) hy; obtain ⟨g, cur, rfl, hg, hC, hcur⟩ := ho.own _ rfl; rw [addr0, ← HVV.out] at hcell; have hfr := hC.frozen (y / 64); have HC := Lib.hid hC; clear hC hcur)
      go_ret
      refine ⟨_, c', rfl, ?_, hb.setCell hg _⟩
      have := ho.set (j := y / 64) (wd_lt (putP p y) (y / 64))
      rw [← HV.out] at this
      exact this.congr (fun i _ => HE.out i)

theorem rput_any (a : Option Addr) (n c : Nat) (p : Nat → Bool) (x : Int) (w : World) (hr : RdW w a n (wd p)) (hz : a = none → c = 0 ∧ n = 0) (hn : n ≤ 100000) (hx : x ≤ 9223372036854775807) :
    Calls Tryd.prog 22 #[.slice a n c, .int .i64 x] w fun e w' => ∃ a' c', e = .returned (.slice a' n c') ∧ OwW w.heap.size w' a' n c' (wd (putP p x)) ∧ Below w.heap.size w w' := by
  have H := Lib.hid (rset_any true a n c p x w hr hz hn hx)
  clear hr
  go_enter Tryd.func22, Tryd.ntmps22
  go_wp2_with fail
  refine H.out.mono ?_
  rintro e w1 ⟨a', c', rfl, ho, hb⟩
  go_wp2
  go_ret
  exact ⟨a', c', rfl, ho, hb⟩
theorem rdrop_any (a : Option Addr) (n c : Nat) (p : Nat → Bool) (x : Int) (w : World) (hr : RdW w a n (wd p)) (hz : a = none → c = 0 ∧ n = 0) (hn : n ≤ 100000) (hx : x ≤ 9223372036854775807) :
    Calls Tryd.prog 24 #[.slice a n c, .int .i64 x] w fun e w' => ∃ a' c', e = .returned (.slice a' n c') ∧ OwW w.heap.size w' a' n c' (wd (dropP p x)) ∧ Below w.heap.size w w' := by
  have H := Lib.hid (rset_any false a n c p x w hr hz hn hx)
  clear hr
  go_enter Tryd.func24, Tryd.ntmps24
  go_wp2_with fail
  refine H.out.mono ?_
  rintro e w1 ⟨a', c', rfl, ho, hb⟩
  go_wp2
  go_ret
  exact ⟨a', c', rfl, ho, hb⟩
end Go.Proofs.YtccgpjhfgmonpaaDoor
