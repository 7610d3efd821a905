/- The evaluator is right at each operation but calls. No program is named here. -/
import Derived.Laws.Cover3
import Derived.Test.YtjomjfjbpcafhaaDoorEv8
namespace Go.Proofs.YtjomjfjbpcafhaaDoor
namespace Ev
open Go Go.RowKit
set_option linter.unusedVariables false
set_option linter.unusedSimpArgs false
section
variable {E : Env} {w : World} {base : Nat} {F0 : Nat → Prop} {ρ : Nat → Nat} {H : Heap}

def GoodN (P : Program) (base : Nat) (F0 : Nat → Prop) (w : World) (ρ : Nat → Nat) (H : Heap) (s : Sem Next) (e : Eff) : Prop :=
  ∃ y w' ρ', (s.run P w = .ok (.value y) w' ∨ (s.run P w = .ok .skip w' ∧ y = undef)) ∧ HRel w' base F0 ρ' (apply H e.upd) ∧ Ext w ρ H w' ρ' (apply H e.upd) ∧ RepD w' base (Fb F0 ρ' (apply H e.upd)) ρ' (apply H e.upd) e.v y
theorem Good.v {P : Program} {s : Sem Value} {e : Eff} (h : Good P base F0 w ρ H s e) : GoodN P base F0 w ρ H (do pure (.value (← s))) e := by
  obtain ⟨y, w', ρ', h1, h2, h3, h4⟩ := h
  exact ⟨y, w', ρ', .inl (by simp [Sem.run_bind, h1, Result.andThen]), h2, h3, h4⟩
theorem Good.u {P : Program} {s : Sem Unit} {e : Eff} (h : Good P base F0 w ρ H (do s; pure undef) e) : GoodN P base F0 w ρ H (do s; pure .skip) e := by
  obtain ⟨y, w', ρ', h1, h2, h3, h4⟩ := h
  rw [Sem.run_bind] at h1
  cases hr : s.run P w with
  | halt x w1 => rw [hr] at h1; simp [Result.andThen] at h1
  | ok u w1 =>
    rw [hr] at h1
    simp [Result.andThen] at h1
    obtain ⟨rfl, rfl⟩ := h1
    exact ⟨undef, w1, ρ', .inr ⟨by simp [Sem.run_bind, hr, Result.andThen], rfl⟩, h2, h3, h4⟩
theorem goodN_quiet {P : Program} (R : HRel w base F0 ρ H) {s : Sem Next} {d : D} {y : Value} (h1 : s.run P w = .ok (.value y) w) (h2 : RepD w base (Fb F0 ρ H) ρ H d y) : GoodN P base F0 w ρ H s { v := d } :=
  ⟨y, w, ρ, .inl h1, R, Ext.refl _ _ _, h2⟩
theorem mkO_good {P : Program} (R : HRel w base F0 ρ H) {s : Sem Value} {x : Value} {e : Eff} (h1 : s.run P w = .ok x w) (h2 : mkO x = some e) : GoodN P base F0 w ρ H (do pure (.value (← s))) e := by
  unfold mkO at h2
  split at h2
  · rename_i hx
    simp only [Option.some.injEq] at h2
    subst h2
    exact (good_quiet R h1 (rep_mk (by rw [← one1_eq]; exact hx))).v
  · simp at h2

theorem opt_bound (t : Tmp → Option D) (a : Act) {F : Nat → Prop} (T : RelG w base F ρ H t a) {o : Option Operand} {dflt n : Nat} (h : natOr (opndG t) o dflt = some n) :
    (o.map a.eval = none ∧ n = dflt) ∨ ∃ k, o.map a.eval = some (.int k (n : Int)) := by
  cases o with
  | none => simp [natOr] at h; exact .inl ⟨rfl, h.symm⟩
  | some y =>
    simp only [natOr, Option.bind_eq_some_iff] at h
    obtain ⟨d, h1, h2⟩ := h
    obtain ⟨k, hk⟩ := asNat_rep (T.opnd h1) h2
    exact .inr ⟨k, by simp [hk]⟩
theorem len_rep {F : Nat → Prop} {d : D} {n : Nat} {y : Value} (h : RepD w base F ρ H d y) (hl : lenD d = some n) : ∃ a c, y = .slice a n c ∧ n ≤ c := by
  unfold lenD at hl
  split at hl
  · simp only [Option.some.injEq] at hl
    subst hl
    cases h with | one c y h => obtain ⟨a, c, e1, e2, e3, e4⟩ := rep_sl h; exact ⟨a, c, e1, e3⟩
  · simp only [Option.some.injEq] at hl
    subst hl
    cases h with | one c y h => cases h with | own k off n c a hk hn ha => exact ⟨some a, c, rfl, hn⟩
  · simp at hl
theorem caps_rep {F : Nat → Prop} {t : Tmp → Option D} {a : Act} (T : RelG w base F ρ H t a) : ∀ (l : List Operand) (cs : List C), (l.mapM fun x => (opndG t x).bind fun | .one c => some c | _ => none) = some cs → RepCs w base F ρ H cs (l.map a.eval)
  | [], cs, h => by simp at h; subst h; exact ⟨rfl, fun i c hi => by simp at hi⟩
  | x :: l, cs, h => by
    simp only [List.mapM_cons, Option.bind_eq_bind, Option.bind_eq_some_iff, Option.pure_def, Option.some.injEq] at h
    obtain ⟨c, ⟨d, h1, h1'⟩, r, h2, rfl⟩ := h
    obtain ⟨g1, g2⟩ := caps_rep T l r h2
    refine ⟨by simpa using g1, fun j p hj => ?_⟩
    cases j with
    | zero =>
      simp at hj; subst hj
      have hr := T.opnd h1
      split at h1'
      · simp only [Option.some.injEq] at h1'; subst h1'
        cases hr with | one c y hr => exact ⟨_, by simp, hr⟩
      · simp at h1'
    | succ j => simp at hj; simpa using g2 j p hj
theorem clo_rep {F : Nat → Prop} {fn : Fn} {f g : List C} {v1 v2 : List Value} (h1 : RepCs w base F ρ H f v1) (h2 : RepCs w base F ρ H g v2) : RepC w base F ρ H (.clo fn f g) (.func fn v1.toArray v2.toArray) :=
  .clo fn f g _ _ (fun i => v1.getD i .nilFunc) (fun i => v2.getD i .nilFunc) (by simpa using h1.1) (by simpa using h2.1)
    (fun i c hi => by obtain ⟨y, e1, e2⟩ := h1.2 i c hi; simp [List.getD_eq_getElem?_getD, e1]) (fun i c hi => by obtain ⟨y, e1, e2⟩ := h2.2 i c hi; simp [List.getD_eq_getElem?_getD, e1])
    (fun i c hi => by obtain ⟨y, e1, e2⟩ := h1.2 i c hi; simpa [List.getD_eq_getElem?_getD, e1] using e2) (fun i c hi => by obtain ⟨y, e1, e2⟩ := h2.2 i c hi; simpa [List.getD_eq_getElem?_getD, e1] using e2)

theorem eq_nil_in {P : Program} (w : World) (d : Nat) (t e : TypeId) (a : Option Addr) (l c : Nat) (h : P.underlying t = some (.slice e)) : (Op.equalIn (d + 1) t (.slice a l c) (.slice none 0 0)).run P w = .ok a.isNone w := by
  cases a <;> simp [Op.equalIn, run_underlying h]
theorem eq_nil_run {P : Program} (w : World) (t e : TypeId) (a : Option Addr) (l c : Nat) (h : P.underlying t = some (.slice e)) : (Op.equal t (.slice a l c) (.slice none 0 0)).run P w = .ok a.isNone w := eq_nil_in w 9999 t e a l c h
theorem run_eql_nil' {P : Program} (w : World) (t e : TypeId) (a : Option Addr) (l c : Nat) (h : P.underlying t = some (.slice e)) : (binOp .eql t (.slice a l c) (.slice none 0 0)).run P w = .ok (.bool a.isNone) w := by
  simp [binOp, eq_nil_run w t e a l c h]
theorem run_neq_nil' {P : Program} (w : World) (t e : TypeId) (a : Option Addr) (l c : Nat) (h : P.underlying t = some (.slice e)) : (binOp .neq t (.slice a l c) (.slice none 0 0)).run P w = .ok (.bool (!a.isNone)) w := by
  simp [binOp, eq_nil_run w t e a l c h]
theorem eql_nil {P : Program} {ty e : TypeId} (hu : P.underlying ty = some (.slice e)) (x y : Operand) (a : Option Addr) (n c : Nat) (w : World) :
    (do eqGuard .eql ty x y (.slice a n c) (.slice none 0 0); binOp .eql ty (.slice a n c) (.slice none 0 0)).run P w = .ok (.bool a.isNone) w := by
  rw [eqGuard_at_slice]
  show (binOp .eql ty (.slice a n c) (.slice none 0 0)).run P w = _
  exact run_eql_nil' w ty e a n c hu
theorem neq_nil {P : Program} {ty e : TypeId} (hu : P.underlying ty = some (.slice e)) (x y : Operand) (a : Option Addr) (n c : Nat) (w : World) :
    (do eqGuard .neq ty x y (.slice a n c) (.slice none 0 0); binOp .neq ty (.slice a n c) (.slice none 0 0)).run P w = .ok (.bool (!a.isNone)) w := by
  rw [eqGuard_at_slice]
  show (binOp .neq ty (.slice a n c) (.slice none 0 0)).run P w = _
  exact run_neq_nil' w ty e a n c hu

set_option maxHeartbeats 1000000 in
theorem sem_ok (hE : TiOk E.P E.ti) (R : HRel w base F0 ρ H) (hb : base ≤ w.heap.size) {nid : Nat} (hn : ∀ B, H[nid]? = some B → B = .no) {t : Tmp → Option D} {a : Act} (T : RelG w base (Fb F0 ρ H) ρ H t a) {o : Oper} {e : Eff}
    (h : sem E nid o (opndG t) H = some e) : GoodN E.P base F0 w ρ H (execOp a.eval o) e := by
  unfold sem at h
  unfold execOp
  split at h
  case h_1 x ho =>
    simp only [Option.bind_eq_bind, Option.bind_eq_some_iff, Option.some.injEq] at h
    obtain ⟨d, h1, rfl⟩ := h
    rw [ho]
    exact goodN_quiet R rfl (T.opnd h1)
  case h_2 x ho =>
    simp only [Option.bind_eq_bind, Option.bind_eq_some_iff, Option.some.injEq] at h
    obtain ⟨d, h1, rfl⟩ := h
    rw [ho]
    exact goodN_quiet R rfl (T.opnd h1)
  case h_3 c x y ho =>
    simp only [Option.bind_eq_bind, Option.bind_eq_some_iff] at h
    obtain ⟨d, h1, b, h2, h3⟩ := h
    have hc := asBool_rep (T.opnd h1) h2
    rw [ho]
    cases b
    · simp only [Bool.false_eq_true, if_false, Option.bind_eq_some_iff, Option.some.injEq] at h3
      obtain ⟨d2, h4, rfl⟩ := h3
      exact goodN_quiet R (by simp [hc, Go.asBool]) (T.opnd h4)
    · simp only [if_true, Option.bind_eq_some_iff, Option.some.injEq] at h3
      obtain ⟨d2, h4, rfl⟩ := h3
      exact goodN_quiet R (by simp [hc, Go.asBool]) (T.opnd h4)
  case h_4 ty ho =>
    simp only [Option.bind_eq_bind, Option.bind_eq_some_iff, Option.some.injEq] at h
    obtain ⟨i, h1, rfl⟩ := h
    rw [ho]
    exact (alloc_ok hE R hb hn h1).v
  case h_5 ty x ho =>
    simp only [Option.bind_eq_bind, Option.bind_eq_some_iff, Option.some.injEq] at h
    obtain ⟨i, h1, d, h2, cs, h3, rfl⟩ := h
    rw [ho]
    exact (box_ok R hb hn (T.opnd h2) h3).v
  case h_6 ty parts ho =>
    simp only [Option.bind_eq_bind, Option.bind_eq_some_iff, Option.some.injEq] at h
    obtain ⟨i, h1, ps, h2, pl, h3, cs, h4, rfl⟩ := h
    rw [ho]
    obtain ⟨z, z1, z2⟩ := build_ok hE h1 h3 (parts_rep T _ _ h2) h4
    refine (good_quiet R ?_ z2).v
    rw [← z1]
    congr 2
    apply Array.ext'
    simp
  case h_7 ty len parts ho =>
    simp only [Option.bind_eq_bind, Option.bind_eq_some_iff] at h
    obtain ⟨i, h1, e1, h2, te, h3, ps, h4, cs, h5, es, h6, h7⟩ := h
    split at h7
    · rename_i hle
      simp only [Option.some.injEq] at h7
      subst h7
      rw [ho]
      have := buildSlice_ok hE R hb hn h1 (elemOf_some h2) h3 hle (parts_rep T _ _ h4) h5 h6
      have e2 : (parts.toList.map fun (i, x) => (i, a.eval x)).toArray = parts.map fun (i, x) => (i, a.eval x) := by apply Array.ext'; simp
      rw [e2] at this
      exact this.v
    · simp at h7
  case h_8 ty x ho =>
    simp only [Option.bind_eq_bind, Option.bind_eq_some_iff, Option.some.injEq] at h
    obtain ⟨i, h1, d, h2, d2, h3, rfl⟩ := h
    rw [ho]
    obtain ⟨z, z1, z2⟩ := load_ok hE h1 R (T.opnd h2) h3
    exact (good_quiet R z1 z2).v
  case h_9 ty x y ho =>
    simp only [Option.bind_eq_bind, Option.bind_eq_some_iff] at h
    obtain ⟨i, h1, d, h2, d2, h3, h4⟩ := h
    rw [ho]
    exact (store_ok hE h1 R (T.opnd h2) (T.opnd h3) h4).u
  case h_10 op ty x y yt ho =>
    simp only [Option.bind_eq_bind, Option.bind_eq_some_iff] at h
    obtain ⟨da, h1, db, h2, h3⟩ := h
    rw [ho]
    split at h3
    · rename_i fr nn sz l
      simp only [Option.bind_eq_some_iff] at h3
      obtain ⟨i, h4, et, h5, h6⟩ := h3
      obtain ⟨aa, c, e1, e2, e3, e4⟩ := rep_sl (by have := T.opnd h1; cases this with | one c y hc => exact hc)
      have hu := hE.und _ _ h4
      rw [elemOf_some h5] at hu
      split at h6
      · simp only [Option.some.injEq] at h6
        subst h6
        refine (good_quiet R (y := .bool (!nn)) ?_ (rep_mk rfl)).v
        simp only [e1]
        rw [show a.eval (.const (.slice none 0 0)) = .slice none 0 0 from rfl, eql_nil hu, e2]
        cases aa <;> rfl
      · simp only [Option.some.injEq] at h6
        subst h6
        refine (good_quiet R (y := .bool nn) ?_ (rep_mk rfl)).v
        simp only [e1]
        rw [show a.eval (.const (.slice none 0 0)) = .slice none 0 0 from rfl, neq_nil hu, e2]
        cases aa <;> rfl
      · simp at h6
    · rename_i k off n
      simp only [Option.bind_eq_some_iff] at h3
      obtain ⟨i, h4, et, h5, h6⟩ := h3
      have hr := T.opnd h1
      have hu := hE.und _ _ h4
      rw [elemOf_some h5] at hu
      generalize hx : a.eval x = vx at hr
      cases hr with
      | one c y hr =>
        cases hr with
        | own k off n c aa hk hc ha =>
          split at h6
          · simp only [Option.some.injEq] at h6
            subst h6
            refine (good_quiet R (y := .bool false) ?_ (rep_mk rfl)).v
            simp only [hx]
            rw [show a.eval (.const (.slice none 0 0)) = .slice none 0 0 from rfl, eql_nil hu]
            rfl
          · simp only [Option.some.injEq] at h6
            subst h6
            refine (good_quiet R (y := .bool true) ?_ (rep_mk rfl)).v
            simp only [hx]
            rw [show a.eval (.const (.slice none 0 0)) = .slice none 0 0 from rfl, neq_nil hu]
            rfl
          · simp at h6
    · simp only [Option.bind_eq_some_iff] at h3
      obtain ⟨va, g1, vb, g2, x1, g3, g4⟩ := h3
      have q1 := plain_rep (T.opnd h1) g1
      have q2 := plain_rep (T.opnd h2) g2
      simp only [q1, q2]
      exact mkO_good R (pureOf_run g3 w) g4
  case h_11 op ty x ho =>
    simp only [Option.bind_eq_bind, Option.bind_eq_some_iff] at h
    obtain ⟨d, h1, va, g1, x1, g3, g4⟩ := h
    rw [ho]
    have q1 := plain_rep (T.opnd h1) g1
    simp only [q1]
    exact mkO_good R (pureOf_run g3 w) g4
  case h_12 src dst x ho =>
    simp only [Option.bind_eq_bind, Option.bind_eq_some_iff] at h
    obtain ⟨d, h1, va, g1, h2⟩ := h
    rw [ho]
    have q1 := plain_rep (T.opnd h1) g1
    simp only [q1]
    split at h2
    · simp only [Option.bind_eq_some_iff] at h2
      obtain ⟨x1, g3, g4⟩ := h2
      exact mkO_good R (pureOf_run g3 w) g4
    · simp at h2
  case h_13 fn first cap ho =>
    simp only [Option.bind_eq_bind, Option.bind_eq_some_iff, Option.some.injEq] at h
    obtain ⟨f, h1, g, h2, rfl⟩ := h
    rw [ho]
    have q1 := caps_rep T _ _ h1
    have q2 := caps_rep T _ _ h2
    refine (good_quiet R (y := .func fn (first.map a.eval) (cap.map a.eval)) rfl (.one _ _ ?_)).v
    have := clo_rep (fn := fn) q1 q2
    rw [show first.map a.eval = (first.toList.map a.eval).toArray by apply Array.ext'; simp, show cap.map a.eval = (cap.toList.map a.eval).toArray by apply Array.ext'; simp]
    exact this
  case h_14 ty l c ho =>
    simp only [Option.bind_eq_bind, Option.bind_eq_some_iff] at h
    obtain ⟨i, h1, et, h2, te, h3, dl, h4, n, h5, dc, h6, m, h7, h8⟩ := h
    split at h8
    · rename_i hc
      obtain ⟨rfl, hle⟩ := hc
      simp only [Option.some.injEq] at h8
      subst h8
      rw [ho]
      obtain ⟨k1, q1⟩ := asNat_rep (T.opnd h4) h5
      obtain ⟨k2, q2⟩ := asNat_rep (T.opnd h6) h7
      simp only [q1, q2]
      exact (makeSlice_ok hE R hb hn h1 (elemOf_some h2) h3 hle).v
    · simp at h8
  case h_15 ty x lo hi mx ho =>
    split at h
    · simp at h
    · rename_i hmx
      have hm : mx = none := by cases mx with | none => rfl | some y => simp at hmx
      subst hm
      simp only [Option.bind_eq_bind, Option.bind_eq_some_iff] at h
      obtain ⟨i, h1, et, h2, te, h3, d, h4, n, h5, h', h6, l, h7, h8⟩ := h
      have b1 := opt_bound t a T (o := lo) (dflt := 0) (n := l) h7
      have b2 := opt_bound t a T (o := hi) (dflt := n) (n := h') h6
      have hd := T.opnd h4
      obtain ⟨aa, c, e1, e2⟩ := len_rep hd h5
      rw [ho]
      split at h8
      · rename_i hle
        have hrun := slice_run hE h1 (elemOf_some h2) h3 (a := aa) (n := n) (c := c) b1 b2 hle.1 (by omega) w
        split at h8
        · rename_i fr nn sz es
          split at h8
          · rename_i hsz
            simp only [Option.some.injEq] at h8
            subst h8
            simp only [e1, Option.map_none]
            refine (good_quiet R hrun ?_).v
            rw [e1] at hd
            cases hd with
            | one cc y hc =>
              have := rep_cut hc hle.1 hle.2
              have e3 : l * te.size = l * sz := by
                rcases hsz with h0 | h0
                · rw [h0]
                · rw [h0]; simp
              rw [e3]
              exact .one _ _ this
          · simp at h8
        · rename_i k off n'
          simp only [Option.bind_eq_some_iff] at h8
          obtain ⟨⟨sz, es⟩, h9, h10⟩ := h8
          split at h10
          · rename_i hlh
            subst hlh
            simp only [Option.some.injEq] at h10
            subst h10
            simp only [e1, Option.map_none]
            refine (good_quiet R hrun ?_).v
            rw [e1] at hd
            cases hd with
            | one cc y hc =>
              cases hc with
              | own k off n c aa hk hcap ha =>
                simp only [Nat.sub_self]
                split
                · exact .one _ _ (rep_empty _)
                · exact .one _ _ (rep_empty _)
          · rename_i hlh
            split at h10
            · rename_i hsz
              simp only at hsz
              simp only [Option.some.injEq] at h10
              subst h10
              simp only [e1, Option.map_none]
              refine (good_quiet R hrun ?_).v
              rw [e1] at hd
              cases hd with
              | one cc y hc =>
                have := rep_cut_own (getBlk_some h9) hc (x := l) (z := h') (by omega) (by simp only [lenD, Option.some.injEq] at h5; omega)
                rw [hsz] at this
                exact .one _ _ this
            · simp at h10
        · simp at h8
      · simp at h8
  case h_16 ty x f ho =>
    simp only [Option.bind_eq_bind, Option.bind_eq_some_iff] at h
    obtain ⟨i, h1, fd, h2, ft, h3, h4⟩ := h
    rw [ho]
    split at h4
    · simp at h4
    · rename_i hz
      simp only [Option.bind_eq_some_iff] at h4
      obtain ⟨d, h5, h6⟩ := h4
      have hd := T.opnd h5
      generalize hx : a.eval x = vx at hd
      split at h6
      · simp only [Option.some.injEq] at h6
        subst h6
        cases hd with
        | one c y hc =>
          have hc2 := hc
          cases hc with
          | ptr k i j aa hk ha =>
            simp only [hx]
            exact (good_quiet R (fieldAddr_ok hE h1 h2 h3 hz aa w) (.one _ _ (rep_ptr_add hc2))).v
      · simp only [Option.some.injEq] at h6
        subst h6
        cases hd with
        | one c y hc =>
          have hc2 := hc
          cases hc with
          | iptr fr sz l i j aa yy hm hr =>
            simp only [hx]
            exact (good_quiet R (fieldAddr_ok hE h1 h2 h3 hz aa w) (.one _ _ (rep_iptr_add hc2))).v
      · simp at h6
  case h_17 ty x f ho =>
    simp only [Option.bind_eq_bind, Option.bind_eq_some_iff] at h
    obtain ⟨i, h1, fd, h2, ft, h3, d, h5, h6⟩ := h
    rw [ho]
    have hd := T.opnd h5
    generalize hx : a.eval x = vx at hd
    split at h6
    · simp only [Option.bind_eq_some_iff, Option.some.injEq] at h6
      obtain ⟨cs, h7, d2, h8, rfl⟩ := h6
      cases hd with
      | agg cs' ys hc =>
        obtain ⟨z, z1, z2⟩ := part_run hE h3 (w := w) hc h7 h8
        obtain ⟨fs, g1, g2⟩ := fieldOf_run h2
        have hu := run_underlying (hE.und _ _ h1) w
        rw [g1] at hu
        refine (good_quiet R (y := z) ?_ z2).v
        simp only [hx]
        simp [Instr.field, hu, g2, asAgg, z1]
    · simp at h6
  case h_18 ty x ix ho =>
    simp only [Option.bind_eq_bind, Option.bind_eq_some_iff] at h
    obtain ⟨i, h1, di, h2, n, h3, d, h5, h6⟩ := h
    rw [ho]
    obtain ⟨k1, q1⟩ := asNat_rep (T.opnd h2) h3
    have hd := T.opnd h5
    generalize hx : a.eval x = vx at hd
    split at h6
    · rename_i fr nn sz l
      simp only [Option.bind_eq_some_iff] at h6
      obtain ⟨et, h7, te, h8, h9⟩ := h6
      split at h9
      · rename_i hlt
        simp only [Option.some.injEq] at h9
        subst h9
        cases hd with
        | one c y hc =>
          obtain ⟨aa, c, e1, e2, e3, e4⟩ := rep_sl hc
          cases aa with
          | none => have := e4 rfl; omega
          | some aa =>
            subst e1
            simp only [hx, q1]
            refine (good_quiet R (indexSlice_run hE h1 (elemOf_some h7) h8 hlt.1 w) ?_).v
            rw [← hlt.2]
            exact .one _ _ (rep_elem hc)
      · simp at h9
    · rename_i k off n'
      simp only [Option.bind_eq_some_iff] at h6
      obtain ⟨et, h7, te, h8, ⟨bz, es⟩, h9, h10⟩ := h6
      split at h10
      · rename_i hlt
        simp only at hlt
        simp only [Option.some.injEq] at h10
        subst h10
        cases hd with
        | one c y hc =>
          cases hc with
          | own k off n' c aa hk hcap ha =>
            simp only [hx, q1]
            refine (good_quiet R (indexSlice_run hE h1 (elemOf_some h7) h8 hlt.1 w) (.one _ _ (.ptr k (off + n) 0 _ hk fun sz es' hb' => ?_))).v
            rw [getBlk_some h9] at hb'
            cases hb'
            rw [(ha _ _ (getBlk_some h9)).1, Addr.add_mid, Nat.add_mul, ← hlt.2]
            rfl
      · simp at h10
    · rename_i k i' j
      split at h6
      · rename_i m et hdsc
        simp only [Option.bind_eq_some_iff] at h6
        obtain ⟨te, h7, h8⟩ := h6
        split at h8
        · rename_i hlt
          simp only [Option.some.injEq] at h8
          subst h8
          cases hd with
          | one c y hc =>
            have hc2 := hc
            cases hc with
            | ptr k i j aa hk ha =>
              simp only [hx, q1]
              exact (good_quiet R (indexArray_run hE h1 hdsc h7 hlt w) (.one _ _ (rep_ptr_add hc2))).v
        · simp at h8
      · simp at h6
    · rename_i fr sz l i' j
      split at h6
      · rename_i m et hdsc
        simp only [Option.bind_eq_some_iff] at h6
        obtain ⟨te, h7, h8⟩ := h6
        split at h8
        · rename_i hlt
          simp only [Option.some.injEq] at h8
          subst h8
          cases hd with
          | one c y hc =>
            have hc2 := hc
            cases hc with
            | iptr fr sz l i j aa yy hm hr =>
              simp only [hx, q1]
              exact (good_quiet R (indexArray_run hE h1 hdsc h7 hlt w) (.one _ _ (rep_iptr_add hc2))).v
        · simp at h8
      · simp at h6
    · simp at h6
  case h_19 ty x ix ho =>
    simp only [Option.bind_eq_bind, Option.bind_eq_some_iff] at h
    obtain ⟨i, h1, di, h2, n, h3, d, h5, h6⟩ := h
    rw [ho]
    obtain ⟨k1, q1⟩ := asNat_rep (T.opnd h2) h3
    have hd := T.opnd h5
    generalize hx : a.eval x = vx at hd
    split at h6
    · split at h6
      · rename_i m et hdsc
        simp only [Option.bind_eq_some_iff] at h6
        obtain ⟨te, h7, h8⟩ := h6
        split at h8
        · rename_i hlt
          simp only [Option.bind_eq_some_iff, Option.some.injEq] at h8
          obtain ⟨cs, h9, d2, h10, rfl⟩ := h8
          cases hd with
          | agg cs' ys hc =>
            obtain ⟨z, z1, z2⟩ := part_run hE h7 (w := w) hc h9 h10
            have hu := run_underlying (hE.und _ _ h1) w
            rw [hdsc] at hu
            have hs := size_run hE h7 w
            refine (good_quiet R (y := z) ?_ z2).v
            simp only [hx, q1]
            have hb1 : (0 : Int) ≤ (n : Int) ∧ (n : Int) < (m : Int) := by omega
            have hb2 : ¬ m ≤ n := by omega
            simp [Instr.index, asIntOf, hu, hs, hb1, hb2, z1]
        · simp at h8
      · simp at h6
    · simp at h6
  case h_20 tp ix ho =>
    simp only [Option.bind_eq_bind, Option.bind_eq_some_iff] at h
    obtain ⟨d, h5, h6⟩ := h
    rw [ho]
    have hd := T.opnd h5
    generalize hx : a.eval tp = vx at hd
    split at h6
    · simp only [Option.bind_eq_some_iff, Option.some.injEq] at h6
      obtain ⟨d2, h7, rfl⟩ := h6
      cases hd with
      | tup ds ys y hl he hr =>
        refine (good_quiet R (y := y ix) ?_ (hr ix d2 h7)).v
        simp only [hx]
        simp [Instr.extract, he ix d2 h7]
    · simp at h6
  case h_21 c ho =>
    split at h
    · rename_i b hb'
      simp only [Option.bind_eq_bind, Option.bind_eq_some_iff] at h
      obtain ⟨ty, h1, i, h2, args, h3, h4⟩ := h
      rw [ho]
      obtain ⟨g1, g2⟩ := args_rep T _ _ h3
      have hres : ∀ (s : Deferred → Sem Next), ((resolve a.eval c o.type) >>= s) = s { target := .builtin b c.argTypes o.type (c.args.map fun | .const _ => true | _ => false), args := c.args.map a.eval } := by
        intro s
        unfold resolve
        rw [hb']
        rfl
      have hgo : (do let d ← resolve a.eval c o.type; invoke d.target d.args : Sem Next) = builtin b c.argTypes o.type (c.args.map fun | .const _ => true | _ => false) (c.args.map a.eval) := by
        rw [hres]; rfl
      show GoodN E.P base F0 w ρ H (do let d ← resolve a.eval c o.type; invoke d.target d.args) e
      rw [hgo]
      have hargs : ∀ l, c.args.toList.map a.eval = l → c.args.map a.eval = l.toArray := fun l hl => by rw [← hl]; apply Array.ext'; simp
      split at h4
      · rename_i x
        obtain ⟨y, e1, e2⟩ := g2 0 x rfl
        have hl1 : c.args.toList.map a.eval = [y] := by
          cases hc : c.args.toList with
          | nil => rw [hc] at g1; simp at g1
          | cons q r =>
            rw [hc] at g1 e1
            simp at g1 e1
            subst g1
            simp [e1]
        rw [hargs _ hl1]
        split at h4
        · rename_i et hd
          simp only [Option.bind_eq_some_iff, Option.some.injEq] at h4
          obtain ⟨n, h5, rfl⟩ := h4
          obtain ⟨aa, cc, q1, q2⟩ := len_rep e2 h5
          have hu := run_underlying (hE.und _ _ h2) w
          rw [hd] at hu
          refine (good_quiet (s := Builtin.len_ c.argTypes o.type #[y]) R (y := .int .i64 n) ?_ (rep_mk rfl)).v
          subst q1
          simp [Builtin.len_, h1, hu, goInt]
        · rename_i hd
          simp only [Option.bind_eq_some_iff] at h4
          obtain ⟨v, h5, h6⟩ := h4
          have hv := plain_rep e2 h5
          split at h6
          · rename_i s
            simp only [Option.some.injEq] at h6
            subst h6
            have hu := run_underlying (hE.und _ _ h2) w
            rw [hd] at hu
            refine (good_quiet (s := Builtin.len_ c.argTypes o.type #[y]) R (y := .int .i64 s.size) ?_ (rep_mk rfl)).v
            subst hv
            simp [Builtin.len_, h1, hu, goInt]
          · simp at h6
        · rename_i n et hd
          simp only [Option.some.injEq] at h4
          subst h4
          have hu := run_underlying (hE.und _ _ h2) w
          rw [hd] at hu
          refine (good_quiet (s := Builtin.len_ c.argTypes o.type #[y]) R (y := .int .i64 n) ?_ (rep_mk rfl)).v
          simp [Builtin.len_, h1, hu, goInt]
        · simp at h4
      · rename_i x0 x1
        obtain ⟨y0, e1, e2⟩ := g2 0 x0 rfl
        obtain ⟨y1, e3, e4⟩ := g2 1 x1 rfl
        have hl1 : c.args.toList.map a.eval = [y0, y1] := by
          generalize c.args.toList = l at g1 e1 e3
          match l, g1 with
          | [q, r], _ => simp at e1 e3; simp [e1, e3]
        rw [hargs _ hl1]
        simp only [Option.bind_eq_some_iff] at h4
        obtain ⟨et, h5, te, h6, ty1, h7, t1, h8, et1, h9, h10⟩ := h4
        have := append_ok hE R hb hn h2 (elemOf_some h5) h6 h8 (elemOf_some h9) e2 e4 h10 o.type
        have hts : Builtin.append_ c.argTypes o.type [y0, y1].toArray = Builtin.append_ #[ty, ty1] o.type #[y0, y1] := by
          unfold Builtin.append_
          simp [h1, h7]
        refine Good.v (s := Builtin.append_ c.argTypes o.type [y0, y1].toArray) ?_
        rw [hts]
        exact this
      · rename_i x0 x1
        obtain ⟨y0, e1, e2⟩ := g2 0 x0 rfl
        obtain ⟨y1, e3, e4⟩ := g2 1 x1 rfl
        have hl1 : c.args.toList.map a.eval = [y0, y1] := by
          generalize c.args.toList = l at g1 e1 e3
          match l, g1 with
          | [q, r], _ => simp at e1 e3; simp [e1, e3]
        rw [hargs _ hl1]
        simp only [Option.bind_eq_some_iff] at h4
        obtain ⟨et, h5, te, h6, ty1, h7, t1, h8, et1, h9, h10⟩ := h4
        have := copy_ok hE R h2 (elemOf_some h5) h6 h8 (elemOf_some h9) e2 e4 h10 o.type
        have hts : Builtin.copy_ c.argTypes o.type [y0, y1].toArray = Builtin.copy_ #[ty, ty1] o.type #[y0, y1] := by
          unfold Builtin.copy_
          simp [h1]
        refine Good.v (s := Builtin.copy_ c.argTypes o.type [y0, y1].toArray) ?_
        rw [hts]
        exact this
      · rename_i x0 x1
        obtain ⟨y0, e1, e2⟩ := g2 0 x0 rfl
        obtain ⟨y1, e3, e4⟩ := g2 1 x1 rfl
        have hl1 : c.args.toList.map a.eval = [y0, y1] := by
          generalize c.args.toList = l at g1 e1 e3
          match l, g1 with
          | [q, r], _ => simp at e1 e3; simp [e1, e3]
        rw [hargs _ hl1]
        simp only [Option.bind_eq_some_iff] at h4
        obtain ⟨v0, h5, v1, h6, h7⟩ := h4
        have q0 := plain_rep e2 h5
        have q1 := plain_rep e4 h6
        split at h7
        · rename_i k p k' q
          simp only [Option.some.injEq] at h7
          subst h7
          refine (good_quiet (s := Builtin.min_ c.argTypes o.type [y0, y1].toArray) R (y := .int k (if q < p then q else p)) ?_ (rep_mk rfl)).v
          rw [q0, q1]
          simp [Builtin.min_, Builtin.min2]
        · simp at h7
      · rename_i x0 x1
        obtain ⟨y0, e1, e2⟩ := g2 0 x0 rfl
        obtain ⟨y1, e3, e4⟩ := g2 1 x1 rfl
        have hl1 : c.args.toList.map a.eval = [y0, y1] := by
          generalize c.args.toList = l at g1 e1 e3
          match l, g1 with
          | [q, r], _ => simp at e1 e3; simp [e1, e3]
        rw [hargs _ hl1]
        simp only [Option.bind_eq_some_iff] at h4
        obtain ⟨v0, h5, v1, h6, h7⟩ := h4
        have q0 := plain_rep e2 h5
        have q1 := plain_rep e4 h6
        split at h7
        · rename_i k p k' q
          simp only [Option.some.injEq] at h7
          subst h7
          refine (good_quiet (s := Builtin.max_ c.argTypes o.type [y0, y1].toArray) R (y := .int k (if q > p then q else p)) ?_ (rep_mk rfl)).v
          rw [q0, q1]
          simp [Builtin.max_, Builtin.max2]
        · simp at h7
      · simp at h4
    · simp at h
  case h_22 => simp at h
end
end Ev
end Go.Proofs.YtjomjfjbpcafhaaDoor
