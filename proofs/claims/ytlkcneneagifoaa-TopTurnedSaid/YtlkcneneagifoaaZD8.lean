/- Texts of a claim, joined. -/
import Derived.Test.YtlkcneneagifoaaZD7
set_option linter.unusedVariables false
set_option linter.unusedSimpArgs false
section
namespace Go.Proofs.Ytlkcneneagifoaa
namespace Ev
namespace K
open Go Go.RowKit
set_option linter.unusedVariables false
set_option linter.unusedSimpArgs false
section
variable {Fa Fb : KF} {ka kb : KS} {Va Vb : Vl} {f : Nat → D} {h : Heap} {M N0 : Nat} {Bb : BK}
theorem cellsV_len : ∀ {vs : List (Nat × Bool × List Sh)} {a : List KC}, cellsV Fa ka vs = some a → a.length = lenV vs
 | [], a, ha => by
  have := Option.some.inj (show some [] = some a from ha)
  subst this; rfl
 | v :: r, a, ha => by
  unfold cellsV at ha
  have hl : lenV (v :: r) = v.2.2.length + lenV r := by unfold lenV; rw [List.flatMap_cons, List.length_append]
  split at ha
  ·split at ha
   ·simp at ha
   ·split at ha
    ·rename_i h1
     rw [Option.map_eq_some_iff] at ha
     obtain ⟨a', g1, rfl⟩ := ha
     rw [List.length_cons, cellsV_len g1, hl, h1]; omega
    ·simp at ha
  ·split at ha
   ·split at ha
    ·rename_i h1
     rw [Option.map_eq_some_iff] at ha
     obtain ⟨a', g1, rfl⟩ := ha
     rw [List.length_append, cellsV_len g1, hl, h1]
    ·simp at ha
   ·simp at ha
  ·simp at ha
theorem slotsP_ok (hr : Rel Fa ka Va f h) : ∀ {vs : List (Nat × Bool × List Sh)} {a b wc : List KC}, cellsV Fa ka vs = some a → TrL (getB Fa ka) Va Bb Vb M (a ++ b) wc → ∀ i d, look (slotsP vs wc) i = some d → i < Fa.nt ∧ ScD M d ∧ RD Bb Vb d (f i)
 | [], a, b, wc, ha, hT, i, d, hd => by simp [slotsP, look] at hd
 | v :: r, a, b, wc, ha, hT, i, d, hd => by
  unfold cellsV at ha
  unfold slotsP at hd
  rw [look_cons] at hd
  split at ha
  ·rename_i c hc
   obtain ⟨s1, s2, c', s3, s4⟩ := hr.sl _ _ hc
   split at ha
   ·simp at ha
   ·rename_i hag
    split at ha
    ·rename_i h1
     rw [Option.map_eq_some_iff] at ha
     obtain ⟨a', g1, rfl⟩ := ha
     obtain ⟨w, s, rfl, t1, t2, t3⟩ := hT
     rw [h1, if_neg hag] at hd
     split at hd
     ·rename_i hi
      cases hd
      subst hi
      exact ⟨s1, t2, c', s3, t1 _ s4⟩
     ·exact slotsP_ok hr g1 t3 i d hd
    ·simp at ha
  ·rename_i cs hc
   obtain ⟨s1, s2, cs', s3, s4⟩ := hr.sl _ _ hc
   split at ha
   ·rename_i hag
    split at ha
    ·rename_i h1
     rw [Option.map_eq_some_iff] at ha
     obtain ⟨a', g1, rfl⟩ := ha
     rw [List.append_assoc] at hT
     have t1 := TrL.take hT
     have t2 := TrL.drop hT
     rw [h1, if_pos hag] at hd
     split at hd
     ·rename_i hi
      cases hd
      subst hi
      exact ⟨s1, TrL.scs t1, cs', s3, TrL.rcs t1 s4⟩
     ·exact slotsP_ok hr g1 t2 i d hd
    ·simp at ha
   ·simp at ha
  ·simp at ha
theorem boxesP_ok : ∀ {bs : List (Nat × List Sh)} {b c wc : List KC}, cellsB Fa ka bs = some b → TrL (getB Fa ka) Va Bb Vb M (b ++ c) wc → ∀ p x, look (boxesP Fa ka bs wc) p = some x → ∃ v ∈ bs, ptrAt Fa ka v.1 = some p ∧ ∃ cs0 ws, look ka.bl p = some (.box cs0) ∧ x = .box ws ∧ Scs M ws ∧ ∀ xs, RCs (getB Fa ka) Va cs0 xs → RCs Bb Vb ws xs
 | [], b, c, wc, hb, hT, p, x, hx => by simp [boxesP, look] at hx
 | v :: r, b, c, wc, hb, hT, p, x, hx => by
  unfold cellsB at hb
  unfold boxesP at hx
  cases hp : ptrAt Fa ka v.1 with
  | none => rw [hp] at hb; simp at hb
  | some q =>
   rw [hp] at hb hx
   simp only [Option.bind_some] at hb
   split at hb
   ·rename_i cs hcs
    split at hb
    ·rename_i h1
     rw [Option.map_eq_some_iff] at hb
     obtain ⟨b', g1, rfl⟩ := hb
     rw [List.append_assoc] at hT
     have t1 := TrL.take hT
     have t2 := TrL.drop hT
     simp only [h1] at hx
     rw [look_cons] at hx
     split at hx
     ·rename_i hi
      cases hx
      subst hi
      exact ⟨v, by simp, hp, cs, _, hcs, rfl, TrL.scs t1, fun xs hxs => TrL.rcs t1 hxs⟩
     ·obtain ⟨v', g2, g3⟩ := boxesP_ok g1 t2 p x hx
      exact ⟨v', by simp [g2], g3⟩
    ·simp at hb
   ·simp at hb
theorem boxesP_none {F : KF} {ks : KS} : ∀ {bs : List (Nat × List Sh)} {w : List KC} {p : Nat}, (∀ v ∈ bs, ptrAt F ks v.1 ≠ some p) → look (boxesP F ks bs w) p = none
 | [], w, p, h => rfl
 | v :: r, w, p, h => by
  unfold boxesP
  cases hp : ptrAt F ks v.1 with
  | none => exact boxesP_none fun v' hv => h v' (by simp [hv])
  | some q =>
   simp only
   rw [look_cons, if_neg (fun e => h v (by simp) (by rw [hp, e]))]
   exact boxesP_none fun v' hv => h v' (by simp [hv])
theorem boxesP_ptr {F : KF} {ks : KS} : ∀ {bs : List (Nat × List Sh)} {w : List KC} {p : Nat} {x : KB}, look (boxesP F ks bs w) p = some x → ∃ v ∈ bs, ptrAt F ks v.1 = some p := by
 intro bs w p x h
 refine Classical.byContradiction fun hn => ?_
 rw [boxesP_none fun v hv he => hn ⟨v, hv, he⟩] at h
 simp at h
theorem cellsB_len : ∀ {bs : List (Nat × List Sh)} {b : List KC}, cellsB Fa ka bs = some b → b.length = lenB bs
 | [], b, hb => by
  have := Option.some.inj (show some [] = some b from hb)
  subst this; rfl
 | v :: r, b, hb => by
  unfold cellsB at hb
  have hl : lenB (v :: r) = v.2.length + lenB r := by unfold lenB; rw [List.flatMap_cons, List.length_append]
  split at hb
  ·split at hb
   ·rename_i h1
    rw [Option.map_eq_some_iff] at hb
    obtain ⟨b', g1, rfl⟩ := hb
    rw [List.length_append, cellsB_len g1, hl, h1]
   ·simp at hb
  ·simp at hb
theorem cellsW_get : ∀ {ws : List (BR × Ty)} {c : List KC} {j : Nat} {v : BR × Ty}, cellsW Fa ka ws = some c → ws[j]? = some v → ∃ p, rowId Fa ka v.1 = some p ∧ c[j]? = some (.o v.2 p)
 | [], c, j, v, hc, hv => by simp at hv
 | v0 :: r, c, j, v, hc, hv => by
  unfold cellsW at hc
  split at hc
  ·rename_i p hp
   rw [Option.map_eq_some_iff] at hc
   obtain ⟨c', g1, rfl⟩ := hc
   cases j with
   | zero => simp at hv; subst hv; exact ⟨p, hp, rfl⟩
   | succ j =>
    obtain ⟨q, h1, h2⟩ := cellsW_get g1 (j := j) (by simpa using hv)
    exact ⟨q, h1, by simpa using h2⟩
  ·simp at hc
theorem cellsP_some {pt : Pt} {cs : List KC} (h : cellsP Fa ka pt = some cs) : ∃ a b c, cellsV Fa ka pt.vs = some a ∧ cellsB Fa ka pt.bs = some b ∧ cellsW Fa ka pt.ws = some c ∧ cs = a ++ (b ++ c) := by
 unfold cellsP at h
 rw [Option.bind_eq_some_iff] at h
 obtain ⟨a, ha, h⟩ := h
 rw [Option.bind_eq_some_iff] at h
 obtain ⟨b, hb, h⟩ := h
 rw [Option.map_eq_some_iff] at h
 obtain ⟨c, hc, rfl⟩ := h
 exact ⟨a, b, c, ha, hb, hc, rfl⟩
theorem rowsP_get : ∀ {ws : List (BR × Ty)} {bs : List KB} {p : Nat} {x : KB}, look (rowsP Fa ka ws bs) p = some x → ∃ (j : Nat) (v : BR × Ty), ws[j]? = some v ∧ bs[j]? = some x ∧ rowId Fa ka v.1 = some p
 | [], bs, p, x, h => by simp [rowsP, look] at h
 | v :: r, [], p, x, h => by simp [rowsP, look] at h
 | v :: r, b :: bs, p, x, h => by
  unfold rowsP at h
  have key : look (rowsP Fa ka r bs) p = some x → ∃ (j : Nat) (v' : BR × Ty), (v :: r)[j]? = some v' ∧ (b :: bs)[j]? = some x ∧ rowId Fa ka v'.1 = some p := fun h => by
   obtain ⟨j, v', h1, h2, h3⟩ := rowsP_get h
   exact ⟨j + 1, v', by simpa using h1, by simpa using h2, h3⟩
  split at h
  ·rename_i q hq
   rw [look_cons] at h
   split at h
   ·rename_i hi
    cases h
    subst hi
    exact ⟨0, v, rfl, rfl, hq⟩
   ·exact key h
  ·exact key h
theorem sh_ws {pt : Pt} {j : Nat} {v : BR × Ty} (h : pt.ws[j]? = some v) : pt.sh[lenV pt.vs + lenB pt.bs + j]? = some (.w v.2) := by
 unfold Pt.sh lenV lenB
 rw [← List.append_assoc, List.getElem?_append_right (by rw [List.length_append]; omega), List.length_append, Nat.add_sub_cancel_left, List.getElem?_map, h]; rfl
theorem rowsP_ok {pt : Pt} {cs : List KC} {y : prodT pt.sh} (hcs : cellsP Fa ka pt = some cs) (hrd : RdCs ka pt.sh cs y) {p : Nat} {x : KB} (h : look (rowsP Fa ka pt.ws ((wCs pt.sh y).drop (lenV pt.vs + lenB pt.bs))) p = some x) : ∃ (j : Nat) (v : BR × Ty) (e : Ty) (ne : Bool) (l : List e.val), v ∈ pt.ws ∧ rowId Fa ka v.1 = some p ∧ look ka.bl p = some (.rows e ne l) ∧ x = .rows e false l ∧ cs[j]? = some (.o e p) ∧ pt.sh[j]? = some (.w e) := by
 obtain ⟨j, v, h1, h2, h3⟩ := rowsP_get h
 obtain ⟨a, b, c, ha, hb, hc, rfl⟩ := cellsP_some hcs
 obtain ⟨p', h4, h5⟩ := cellsW_get hc h1
 rw [h3] at h4
 cases h4
 have hj : (a ++ (b ++ c))[lenV pt.vs + lenB pt.bs + j]? = some (.o v.2 p) := by
  rw [← List.append_assoc, List.getElem?_append_right (by rw [List.length_append, cellsV_len ha, cellsB_len hb]; omega), List.length_append, cellsV_len ha, cellsB_len hb, Nat.add_sub_cancel_left, h5]
 obtain ⟨e', p', ne, l, g1, g2, g3⟩ := wCs_get hrd hj (sh_ws h1)
 cases g1
 rw [List.getElem?_drop, g3] at h2
 cases h2
 exact ⟨_, v, _, ne, l, List.mem_of_getElem? h1, h3, g2, rfl, hj, sh_ws h1⟩
theorem trans {pt : Pt} {cs : List KC} {y : prodT pt.sh} (hr : Rel Fa ka Va f h) (hcs : cellsP Fa ka pt = some cs) (hrd : RdCs ka pt.sh cs y) (hnd : nodupB (ownIds cs) = true) (hN : N0 ≤ ka.nx) (hnt : Fb.nt = Fa.nt) (hnx : kb.nx = N0 + pt.sh.length)
  (hS : ∀ i d, getS Fb kb i = some d → look (slotsP pt.vs ((writeCs pt.sh y N0).map (·.1))) i = some d ∨ (getS Fa ka i = some d ∧ ScD N0 d))
  (hB1 : ∀ p b, getB Fb kb p = some b → look (boxesP Fa ka pt.bs (((writeCs pt.sh y N0).map (·.1)).drop (lenV pt.vs))) p = some b ∨ look (rowsP Fa ka pt.ws ((wCs pt.sh y).drop (lenV pt.vs + lenB pt.bs))) p = some b ∨ look ((writeCs pt.sh y N0).flatMap (·.2)) p = some b ∨ (getB Fa ka p = some b ∧ p < N0 ∧ ScB N0 b ∧ p ∉ ownIds cs ∧ ∀ v ∈ pt.bs, ptrAt Fa ka v.1 ≠ some p))
  (hB2 : ∀ p b, (p, b) ∈ (writeCs pt.sh y N0).flatMap (·.2) → getB Fb kb p = some b) (hbx : ∀ v ∈ pt.bs, ∀ p, ptrAt Fa ka v.1 = some p → p < N0) (hwx : ∀ v ∈ pt.ws, ∀ p, rowId Fa ka v.1 = some p → p < N0) : ∃ Vb, Rel Fb kb Vb f h ∧ Agree N0 Va Vb ∧ LeB N0 (getB Fa ka) (getB Fb kb) := by
 have hlen := hrd.len
 have hag : Agree N0 Va (mkV Va N0 cs (hbos pt.sh y)) := mkV_agree
 obtain ⟨a, b, cw, ha, hb, hcw, hcse⟩ := cellsP_some hcs
 have hbox0 : ∀ p x, look (boxesP Fa ka pt.bs (((writeCs pt.sh y N0).map (·.1)).drop (lenV pt.vs))) p = some x → ∃ v ∈ pt.bs, ptrAt Fa ka v.1 = some p := fun p x hx => boxesP_ptr hx
 have hrow : ∀ p x, look (rowsP Fa ka pt.ws ((wCs pt.sh y).drop (lenV pt.vs + lenB pt.bs))) p = some x → ∃ (j : Nat) (v : BR × Ty) (e : Ty) (ne : Bool) (l : List e.val), v ∈ pt.ws ∧ rowId Fa ka v.1 = some p ∧ look ka.bl p = some (.rows e ne l) ∧ x = .rows e false l ∧ cs[j]? = some (.o e p) ∧ pt.sh[j]? = some (.w e) := fun p x hx => rowsP_ok hcs hrd hx
 have hvac : ∀ (j : Nat) e, pt.sh[j]? = some (.w e) → ∀ x, getB Fb kb (N0 + j) ≠ some x := by
  intro j e hj x hx
  rcases hB1 _ _ hx with h1 | h1 | h1 | h1
  ·obtain ⟨v, g1, g2⟩ := hbox0 _ _ h1
   have := hbx v g1 _ g2; omega
  ·obtain ⟨_, v, _, _, _, g1, g2, _⟩ := hrow _ _ h1
   have := hwx v g1 _ g2; omega
  ·obtain ⟨j', c, hh, yy, e1, ⟨_, g0⟩, _, _, g4⟩ := holes_mem hrd (look_mem h1)
   obtain rfl : j = j' := by omega
   rw [hj] at g0
   cases g0
   simp [writeC] at g4
  ·omega
 have hT : TrL (getB Fa ka) Va (getB Fb kb) (mkV Va N0 cs (hbos pt.sh y)) kb.nx cs ((writeCs pt.sh y N0).map (·.1)) :=
  writeCs_rel rfl N0 hrd (fun j c hc => mkV_id hc) (fun j b hb => mkV_bo hb) hB2 hvac (by omega)
 have hids : ∀ (j : Nat) (c : KC), cs[j]? = some c → (mkV Va N0 cs (hbos pt.sh y)).id (N0 + j) = hid Va c := fun j c hc => mkV_id hc
 generalize mkV Va N0 cs (hbos pt.sh y) = Vb at hag hT hids
 rw [hcse] at hT
 have hT2 := TrL.drop hT
 rw [cellsV_len ha] at hT2
 have hbox := boxesP_ok (M := kb.nx) (c := cw) hb hT2
 have hle : LeB N0 (getB Fa ka) (getB Fb kb) := by
  intro p hp
  have key : ∀ x, getB Fb kb p = some x → (∀ cs, x ≠ .box cs) → getB Fa ka p = some x ∨ ∃ e ne l, getB Fa ka p = some (.rows e ne l) ∧ x = .rows e false l := by
   intro x hx hnb
   rcases hB1 p x hx with h1 | h1 | h1 | h1
   ·obtain ⟨v, _, _, cs0, ws, _, e, _⟩ := hbox p x h1
    exact absurd e (hnb ws)
   ·obtain ⟨_, v, e, ne, l, _, _, g3, g4, _⟩ := hrow p x h1
    exact .inr ⟨e, ne, l, getB_of_look g3 (by simp), g4⟩
   ·obtain ⟨j, c, hh, yy, e, _⟩ := holes_mem hrd (look_mem h1)
    omega
   ·exact .inl h1.1
  refine ⟨fun e ne l hl => ?_, fun e l hl => ?_⟩
  ·rcases key _ hl (by simp) with h1 | ⟨e0, n0, l0, h1, h2⟩
   ·exact ⟨e, ne, l, h1, rfl⟩
   ·cases h2; exact ⟨_, _, _, h1, rfl⟩
  ·rcases key _ hl (by simp) with h1 | ⟨e0, n0, l0, h1, h2⟩
   ·exact ⟨e, l, h1, rfl⟩
   ·cases h2
 -- where a block comes from
 have horg : ∀ p x, getB Fb kb p = some x → x.there → ∃ o x0, getB Fa ka o = some x0 ∧ x0.there ∧ Vb.id p = Va.id o ∧ ((∃ j c hh, p = N0 + j ∧ cs[j]? = some c ∧ ownId c = some o ∧ (∀ cs0, x0 ≠ .box cs0) ∧ pt.sh[j]? = some hh ∧ ∀ e, hh ≠ .w e) ∨ (o = p ∧ ((∃ cs0, x0 = .box cs0) ∨ (∃ (j : Nat) (e : Ty), cs[j]? = some (.o e p) ∧ pt.sh[j]? = some (.w e)) ∨ p ∉ ownIds cs))) := by
  intro p x hx ht
  rcases hB1 p x hx with h1 | h1 | h1 | ⟨h1, h2, h3, h4, h5⟩
  ·obtain ⟨v, g1, g2, cs0, ws, g3, e, _⟩ := hbox p x h1
   exact ⟨p, .box cs0, getB_of_look g3 (by simp), trivial, (hag p (hbx v g1 p g2)).1, .inr ⟨rfl, .inl ⟨cs0, rfl⟩⟩⟩
  ·obtain ⟨j, v, e, ne, l, g1, g2, g3, g4, g5, g6⟩ := hrow p x h1
   exact ⟨p, _, getB_of_look g3 (by simp), trivial, (hag p (hwx v g1 p g2)).1, .inr ⟨rfl, .inr (.inl ⟨j, e, g5, g6⟩)⟩⟩
  ·obtain ⟨j, c, hh, yy, rfl, ⟨g1, g0⟩, g2, g3, g4⟩ := holes_mem hrd (look_mem h1)
   have hidj : Vb.id (N0 + j) = hid Va c := hids j c g2
   cases hh with
   | d fr t => cases t <;> simp [writeC] at g4
   | w e => simp [writeC] at g4
   | o e =>
    obtain ⟨e', o, ne, rfl, g5⟩ := g3
    exact ⟨o, _, getB_of_look g5 (by simp), trivial, hidj, .inl ⟨j, _, _, rfl, g2, rfl, by simp, g0, by simp⟩⟩
   | m e =>
    simp only [writeC, List.cons.injEq, Prod.mk.injEq, true_and, and_true] at g4
    subst g4
    rcases g3 with ⟨rfl, g5⟩ | ⟨e', o, rfl, g5⟩ | ⟨e', o, ne, rfl, g5, g6⟩
    ·exact absurd g5 ht
    ·exact ⟨o, _, getB_of_look g5 (by simp), ht, hidj, .inl ⟨j, _, _, rfl, g2, rfl, by simp, g0, by simp⟩⟩
    ·exact ⟨o, _, getB_of_look g5 (by simp), trivial, hidj, .inl ⟨j, _, _, rfl, g2, rfl, by simp, g0, by simp⟩⟩
  ·exact ⟨p, x, h1, ht, (hag p h2).1, .inr ⟨rfl, .inr (.inr h4)⟩⟩
 refine ⟨Vb, ⟨?_, ?_, ?_⟩, hag, hle⟩
 ·intro i d hd
  rcases hS i d hd with h1 | ⟨h1, h2⟩
  ·obtain ⟨g1, g2, g3⟩ := slotsP_ok (M := kb.nx) hr ha hT i d h1
   exact ⟨by rw [hnt]; exact g1, g2, g3⟩
  ·obtain ⟨g1, g2, g3⟩ := hr.sl i d h1
   exact ⟨by rw [hnt]; exact g1, h2.mono (by omega), g3.mono h2 hle hag⟩
 ·intro p x hx
  rcases hB1 p x hx with h1 | h1 | h1 | ⟨h1, h2, h3, h4, h5⟩
  ·obtain ⟨v, g1, g2, cs0, ws, g3, rfl, g4, g5⟩ := hbox p x h1
   obtain ⟨k1, k2, sz, cs', k3, k4⟩ := hr.bl p _ (getB_of_look g3 (by simp))
   have hp := hbx v g1 p g2
   exact ⟨by omega, g4, sz, cs', by rw [(hag p hp).1]; exact k3, g5 _ k4⟩
  ·obtain ⟨j, v, e, ne, l, g1, g2, g3, rfl, _, _⟩ := hrow p x h1
   obtain ⟨k1, k2, k3, k4⟩ := hr.bl p _ (getB_of_look g3 (by simp))
   have hp := hwx v g1 p g2
   exact ⟨by omega, trivial, by rw [(hag p hp).1]; exact k3, by simp⟩
  ·obtain ⟨j, c, hh, yy, rfl, ⟨g1, g0⟩, g2, g3, g4⟩ := holes_mem hrd (look_mem h1)
   have hidj : Vb.id (N0 + j) = hid Va c := hids j c g2
   refine ⟨by omega, ?_⟩
   rw [hidj]
   cases hh with
   | d fr t => cases t <;> simp [writeC] at g4
   | w e => simp [writeC] at g4
   | o e =>
    simp only [writeC, List.cons.injEq, Prod.mk.injEq, true_and, and_true] at g4
    subst g4
    obtain ⟨e', o, ne, rfl, g5⟩ := g3
    obtain ⟨k1, k2, k3, k4⟩ := hr.bl o _ (getB_of_look g5 (by simp))
    exact ⟨trivial, k3, by simp⟩
   | m e =>
    simp only [writeC, List.cons.injEq, Prod.mk.injEq, true_and, and_true] at g4
    subst g4
    refine ⟨trivial, fun hne => ?_⟩
    rcases g3 with ⟨rfl, g5⟩ | ⟨e', o, rfl, g5⟩ | ⟨e', o, ne, rfl, g5, g6⟩
    ·exact absurd g5 hne
    ·exact (hr.bl o _ (getB_of_look g5 (by simp))).2.2 hne
    ·exact (hr.bl o _ (getB_of_look g5 (by simp))).2.2.1
  ·obtain ⟨k1, k2, k3⟩ := hr.bl p x h1
   exact ⟨by omega, h3.mono (by omega), by rw [(hag p h2).1]; exact k3.mono h3 hle hag⟩
 ·intro p q x x' hp hq tp tq hid
  obtain ⟨o, x0, g1, g2, g3, g4⟩ := horg p x hp tp
  obtain ⟨o', x0', g1', g2', g3', g4'⟩ := horg q x' hq tq
  rw [g3, g3'] at hid
  have ho := hr.inj o o' x0 x0' g1 g1' g2 g2' hid
  subst ho
  rw [g1] at g1'
  cases g1'
  have cross : ∀ (p q : Nat), (∃ (j : Nat) (c : KC) (hh : Sh), p = N0 + j ∧ cs[j]? = some c ∧ ownId c = some o ∧ (∀ cs0, x0 ≠ .box cs0) ∧ pt.sh[j]? = some hh ∧ ∀ e, hh ≠ .w e) → (o = q ∧ ((∃ cs0, x0 = .box cs0) ∨ (∃ (j : Nat) (e : Ty), cs[j]? = some (.o e q) ∧ pt.sh[j]? = some (.w e)) ∨ q ∉ ownIds cs)) → False := by
   intro p q ⟨j, c, hh, _, w2, w3, w4, w5, w6⟩ ⟨v1, v2⟩
   subst v1
   rcases v2 with ⟨cs0, v2⟩ | ⟨j', e, v2, v3⟩ | v2
   ·exact w4 cs0 v2
   ·obtain rfl := ownIds_inj hnd w2 v2 w3 rfl
    rw [v3] at w5
    cases w5
    exact w6 e rfl
   ·exact v2 (ownIds_mem w2 w3)
  rcases g4 with ⟨j, c, hh, w1, w2, w3, w4, w5, w6⟩ | w
  ·rcases g4' with ⟨j', c', hh', v1, v2, v3, v4, v5, v6⟩ | v
   ·have := ownIds_inj hnd w2 v2 w3 v3
    rw [w1, v1, this]
   ·exact (cross _ _ ⟨j, c, hh, w1, w2, w3, w4, w5, w6⟩ v).elim
  ·rcases g4' with v | v
   ·exact (cross _ _ v w).elim
   ·rw [← w.1, ← v.1]
end
end K
end Ev
end Go.Proofs.Ytlkcneneagifoaa
end
section
namespace Go.Proofs.Ytlkcneneagifoaa
namespace Ev
namespace K
open Go Go.RowKit
set_option linter.unusedVariables false
set_option linter.unusedSimpArgs false
theorem look_append {α : Type} : ∀ (l m : List (Nat × α)) (i : Nat), look (l ++ m) i = lookF l m i
 | [], m, i => rfl
 | x :: l, m, i => by
  have := look_append l m i
  unfold lookF at this ⊢
  rw [show x :: l ++ m = (x.1, x.2) :: (l ++ m) from rfl, show x :: l = (x.1, x.2) :: l from rfl, look_cons, look_cons]
  split
  ·rfl
  ·exact this
theorem look_dead {l : List Nat} {p : Nat} : look (l.map fun p => (p, KB.dead)) p = none ∧ p ∉ l ∨ look (l.map fun p => (p, KB.dead)) p = some .dead ∧ p ∈ l := by
 induction l with
 | nil => exact .inl ⟨rfl, by simp⟩
 | cons a l ih =>
  rw [List.map_cons, look_cons]
  by_cases h : p = a
  ·subst h; exact .inr ⟨by rw [if_pos rfl], by simp⟩
  ·rw [if_neg h]
   rcases ih with ⟨h1, h2⟩ | ⟨h1, h2⟩
   ·exact .inl ⟨h1, by simp [h, h2]⟩
   ·exact .inr ⟨h1, by simp [h2]⟩
theorem holes_look {q0 : Nat} : ∀ {hs : List Sh} {x : prodT hs} {q p : Nat} {b : KB}, (p, b) ∈ (writeCs hs x q).flatMap (·.2) → look ((writeCs hs x q).flatMap (·.2)) p = some b ∧ q ≤ p ∧ b ≠ .dead
 | [], x, q, p, b, h => by simp [writeCs] at h
 | [s], x, q, p, b, h => by
  have h1 : (p, b) ∈ (writeC q s x).2 := by simpa [writeCs] using h
  obtain ⟨rfl, h2⟩ := writeC_blk h1
  have h3 : (writeCs [s] x p).flatMap (·.2) = [(p, b)] := by simpa [writeCs] using h2
  rw [h3, look_cons, if_pos rfl]
  refine ⟨rfl, Nat.le_refl _, ?_⟩
  cases s with
  | d fr t => cases t <;> simp [writeC] at h2
  | o e => simp only [writeC, List.cons.injEq, Prod.mk.injEq, true_and, and_true] at h2; subst h2; simp
  | m e => simp only [writeC, List.cons.injEq, Prod.mk.injEq, true_and, and_true] at h2; subst h2; simp
  | w e => simp [writeC] at h2
 | s :: s' :: r, x, q, p, b, h => by
  have e1 : (writeCs (s :: s' :: r) x q).flatMap (·.2) = (writeC q s x.1).2 ++ (writeCs (s' :: r) x.2 (q + 1)).flatMap (·.2) := by simp [writeCs]
  rw [e1] at h ⊢
  rw [look_append]
  unfold lookF
  rcases List.mem_append.1 h with h | h
  ·obtain ⟨rfl, h2⟩ := writeC_blk h
   rw [h2, look_cons, if_pos rfl]
   refine ⟨rfl, Nat.le_refl _, ?_⟩
   cases s with
   | d fr t => cases t <;> simp [writeC] at h2
   | o e => simp only [writeC, List.cons.injEq, Prod.mk.injEq, true_and, and_true] at h2; subst h2; simp
   | m e => simp only [writeC, List.cons.injEq, Prod.mk.injEq, true_and, and_true] at h2; subst h2; simp
   | w e => simp [writeC] at h2
  ·obtain ⟨g1, g2, g3⟩ := holes_look (q0 := q0) h
   have : look (writeC q s x.1).2 p = none := by
    cases hl : look (writeC q s x.1).2 p with
    | none => rfl
    | some b' => obtain ⟨h3, _⟩ := writeC_blk (look_mem hl); omega
   rw [this]
   exact ⟨g1, by omega, g3⟩
theorem holes_none {hs : List Sh} {x : prodT hs} {q p : Nat} (hp : p < q) : look ((writeCs hs x q).flatMap (·.2)) p = none := by
 cases hl : look ((writeCs hs x q).flatMap (·.2)) p with
 | none => rfl
 | some b => have := (holes_look (q0 := 0) (look_mem hl)).2.1; omega
theorem rdC_own {ks : KS} {h : Sh} {c : KC} {x : h.T} {p : Nat} (hrd : RdC ks h c x) (ho : ownId c = some p) : ∃ b, look ks.bl p = some b ∧ b ≠ .dead := by
 cases h with
 | d fr t =>
  obtain ⟨_, h2⟩ := hrd
  cases c <;> simp [ownId] at ho
  ·subst ho; cases t <;> simp [decC, noB] at h2
  ·subst ho; cases t <;> simp [decC, noB] at h2
 | o e => obtain ⟨e', q, ne, rfl, h2⟩ := hrd; simp [ownId] at ho; subst ho; exact ⟨_, h2, by simp⟩
 | w e => obtain ⟨e', q, ne, rfl, h2⟩ := hrd; simp [ownId] at ho; subst ho; exact ⟨_, h2, by simp⟩
 | m e =>
  rcases hrd with ⟨rfl, h2⟩ | ⟨e', q, rfl, h2⟩ | ⟨e', q, ne, rfl, h2, h3⟩
  ·simp [ownId] at ho
  ·simp [ownId] at ho; subst ho; exact ⟨_, h2, by simp⟩
  ·simp [ownId] at ho; subst ho; exact ⟨_, h2, by simp⟩
theorem ownIds_get : ∀ {cs : List KC} {p : Nat}, p ∈ ownIds cs → ∃ (j : Nat) (c : KC), cs[j]? = some c ∧ ownId c = some p
 | [], p, h => by simp [ownIds] at h
 | a :: cs, p, h => by
  by_cases ha : ownId a = some p
  ·exact ⟨0, a, rfl, ha⟩
  ·have : p ∈ ownIds cs := by
    cases a <;> simp [ownIds] at h <;> first | exact h | (rcases h with h | h; exact absurd (by simp [ownId, h]) ha; exact h)
   obtain ⟨j, c, h1, h2⟩ := ownIds_get this
   exact ⟨j + 1, c, by simpa using h1, h2⟩
theorem rdCs_get {ks : KS} : ∀ {hs : List Sh} {cs : List KC} {x : prodT hs} {j : Nat} {c : KC}, RdCs ks hs cs x → cs[j]? = some c → ∃ h y, RdC ks h c y
 | [], cs, x, j, c, hrd, hj => by rw [show cs = [] from hrd] at hj; simp at hj
 | [h], cs, x, j, c, ⟨a, e, hrd⟩, hj => by
  subst e
  cases j with
  | zero => simp at hj; subst hj; exact ⟨h, x, hrd⟩
  | succ j => simp at hj
 | h :: h' :: r, cs, x, j, c, ⟨a, s, e, hrd, hrd2⟩, hj => by
  subst e
  cases j with
  | zero => simp at hj; subst hj; exact ⟨h, x.1, hrd⟩
  | succ j => exact rdCs_get hrd2 (by simpa using hj)
theorem rdCs_own {ks : KS} {hs : List Sh} {cs : List KC} {x : prodT hs} {p : Nat} (hrd : RdCs ks hs cs x) (hp : p ∈ ownIds cs) : ∃ b, look ks.bl p = some b ∧ b ≠ .dead := by
 obtain ⟨j, c, h1, h2⟩ := ownIds_get hp
 obtain ⟨h, y, h3⟩ := rdCs_get hrd h1
 exact rdC_own h3 h2
theorem keepS_look {F : KF} {ks : KS} : ∀ {l : List Nat} {i : Nat} {d : KD}, look (keepS F ks l) i = some d → look ks.sl i = some d
 | [], i, d, h => by simp [keepS, look] at h
 | a :: l, i, d, h => by
  unfold keepS at h
  split at h
  ·rename_i d0 h0
   rw [look_cons] at h
   split at h
   ·rename_i hi; cases h; subst hi; exact h0
   ·exact keepS_look h
  ·exact keepS_look h
theorem okEnd_look {F : KF} {ks : KS} (h : okEnd F ks = true) {i : Nat} {d : KD} (hd : look F.sl i = some d) : look ks.sl i = none ∧ getS F ks i = some d := by
 have h1 : look ks.sl i = none := by
  have := List.all_eq_true.1 h (i, d) (look_mem hd)
  simpa using this
 exact ⟨h1, by unfold getS lookF; rw [h1]; exact hd⟩
theorem boxesP_same {F F' : KF} {ks ks' : KS} : ∀ {bs : List (Nat × List Sh)} {w : List KC}, (∀ v ∈ bs, ptrAt F' ks' v.1 = ptrAt F ks v.1) → boxesP F' ks' bs w = boxesP F ks bs w
 | [], w, h => rfl
 | v :: r, w, h => by
  unfold boxesP
  rw [h v (by simp)]
  cases ptrAt F ks v.1 with
  | none => exact boxesP_same fun v' hv => h v' (by simp [hv])
  | some q => simp only; rw [boxesP_same fun v' hv => h v' (by simp [hv])]
theorem cellsB_ptr {F : KF} {ks : KS} : ∀ {bs : List (Nat × List Sh)} {b : List KC}, cellsB F ks bs = some b → ∀ v ∈ bs, ∃ p cs, ptrAt F ks v.1 = some p ∧ look ks.bl p = some (.box cs)
 | [], b, hb, v, hv => by simp at hv
 | v0 :: r, b, hb, v, hv => by
  unfold cellsB at hb
  cases hp : ptrAt F ks v0.1 with
  | none => rw [hp] at hb; simp at hb
  | some q =>
   rw [hp] at hb
   simp only [Option.bind_some] at hb
   split at hb
   ·rename_i cs hcs
    split at hb
    ·rw [Option.map_eq_some_iff] at hb
     obtain ⟨b', g1, rfl⟩ := hb
     rcases List.mem_cons.1 hv with rfl | hv
     ·exact ⟨q, cs, hp, hcs⟩
     ·exact cellsB_ptr g1 v hv
    ·simp at hb
   ·simp at hb
theorem readP_some {F : KF} {ks : KS} {V : Vl} {f : Nat → D} {h : Heap} {pt : Pt} {R : Type} {r : R} {κ : prodT pt.sh → Option R} (hr : Rel F ks V f h) (hs : readP F ks pt κ = some r) : ∃ cs x, cellsP F ks pt = some cs ∧ nodupB (ownIds cs) = true ∧ RdCs ks pt.sh cs x ∧ κ x = some r := by
 unfold readP at hs
 split at hs
 ·rename_i cs hcs
  cases hn : nodupB (ownIds cs) with
  | false => rw [hn] at hs; simp at hs
  | true =>
   rw [hn] at hs
   obtain ⟨x, h1, h2⟩ := readCs_ok (fun p e ne l hl hne => (hr.bl p _ (getB_of_look hl (by simp))).2.2.2 hne) (show readCs ks pt.sh cs κ = some r from hs)
   exact ⟨cs, x, hcs, hn, h2, h1⟩
 ·simp at hs
theorem ptr_lt {F : KF} {ks : KS} {V : Vl} {f : Nat → D} {h : Heap} (hr : Rel F ks V f h) {i p : Nat} (hp : ptrAt F ks i = some p) : p < ks.nx := by
 unfold ptrAt at hp
 split at hp
 ·rename_i q j hd
  split at hp
  ·cases hp; exact (hr.sl _ _ hd).2.1
  ·simp at hp
 ·simp at hp
theorem rowsP_none {F : KF} {ks : KS} {ws : List (BR × Ty)} {bs : List KB} {p : Nat} (h : ∀ v ∈ ws, rowId F ks v.1 ≠ some p) : look (rowsP F ks ws bs) p = none := by
 cases hl : look (rowsP F ks ws bs) p with
 | none => rfl
 | some x =>
  obtain ⟨j, v, h1, h2, h3⟩ := rowsP_get hl
  exact absurd h3 (h v (List.mem_of_getElem? h1))
theorem rowsP_same {F F' : KF} {ks ks' : KS} : ∀ {ws : List (BR × Ty)} {bs : List KB}, (∀ v ∈ ws, rowId F' ks' v.1 = rowId F ks v.1) → rowsP F' ks' ws bs = rowsP F ks ws bs
 | [], bs, h => by simp [rowsP]
 | v :: r, [], h => by simp [rowsP]
 | v :: r, b :: bs, h => by
  unfold rowsP
  rw [h v (by simp)]
  cases rowId F ks v.1 with
  | none => exact rowsP_same fun v' hv => h v' (by simp [hv])
  | some q => simp only; rw [rowsP_same fun v' hv => h v' (by simp [hv])]
theorem ownIds_append : ∀ (a b : List KC), ownIds (a ++ b) = ownIds a ++ ownIds b
 | [], b => rfl
 | c :: a, b => by
  have := ownIds_append a b
  cases c <;> simp [ownIds, this]
theorem cellsW_own {F : KF} {ks : KS} {pt : Pt} {cs : List KC} (hcs : cellsP F ks pt = some cs) {v : BR × Ty} (hv : v ∈ pt.ws) : ∃ p, rowId F ks v.1 = some p ∧ p ∈ ownIds cs := by
 obtain ⟨a, b, c, ha, hb, hc, rfl⟩ := cellsP_some hcs
 obtain ⟨j, hj⟩ := List.getElem?_of_mem hv
 obtain ⟨p, h1, h2⟩ := cellsW_get hc hj
 refine ⟨p, h1, ?_⟩
 rw [ownIds_append, ownIds_append]
 exact List.mem_append.2 (.inr (List.mem_append.2 (.inr (ownIds_mem h2 rfl))))
theorem row_lt {F : KF} {ks : KS} {V : Vl} {f : Nat → D} {h : Heap} (hr : Rel F ks V f h) {w : BR} {p : Nat} (hp : rowId F ks w = some p) : p < ks.nx := by
 unfold rowId at hp
 split at hp
 ·rename_i e q hc
  cases hp
  cases w with
  | sl i j =>
   simp only [brC] at hc
   split at hc
   ·rename_i c hd
    cases hc
    exact (hr.sl _ _ hd).2.1
   ·rename_i cs hd
    exact (hr.sl _ _ hd).2.1 _ (List.mem_of_getElem? hc)
   ·simp at hc
  | bx i j =>
   simp only [brC] at hc
   split at hc
   ·rename_i q hq
    split at hc
    ·rename_i cs hb
     have : getB F ks q = some (.box cs) := by unfold getB; rw [hb]
     exact (hr.bl _ _ this).2.1 _ (List.mem_of_getElem? hc)
    ·simp at hc
   ·simp at hc
 ·simp at hp
theorem exEq_eq {a b : Ex} (h : exEq a b = true) : a = b := by
 cases a <;> cases b <;> simp [exEq] at h <;> first | rfl | (subst h; rfl)
theorem boxIds_mem {F : KF} {ks : KS} : ∀ {bs : List (Nat × List Sh)} {v : Nat × List Sh} {p : Nat}, v ∈ bs → ptrAt F ks v.1 = some p → p ∈ boxIds F ks bs
 | [], v, p, hv, _ => by simp at hv
 | w :: r, v, p, hv, hp => by
  unfold boxIds
  rcases List.mem_cons.1 hv with rfl | hv
  ·rw [hp]; exact List.mem_cons_self
  ·have := boxIds_mem hv hp
   split
   ·exact List.mem_cons_of_mem _ this
   ·exact this
theorem frame_bl {F : KF} {ks : KS} {ds : List Nat} {p : Nat} {b : KB} (hl : look (ds.map (fun p => (p, KB.dead)) ++ (ks.bl ++ F.bl)) p = some b) (hb : b ≠ .dead) : p ∉ ds ∧ getB F ks p = some b := by
 rw [look_append] at hl
 unfold lookF at hl
 rcases look_dead (l := ds) (p := p) with ⟨h1, h2⟩ | ⟨h1, h2⟩
 ·rw [h1] at hl
  simp only [look_append] at hl
  refine ⟨h2, ?_⟩
  unfold getB
  rw [hl]
  cases b <;> first | rfl | exact absurd rfl hb
 ·rw [h1] at hl; simp only [Option.some.injEq] at hl; exact absurd hl.symm hb
def PostC (F : KF) (ks : KS) (V : Vl) {R : Type} (κ : Ex → KS → Option R) (r : R) (e : Ex) (s : St) : Prop := ∃ ks' V' f', s.t = tab F.nt f' ∧ Rel F ks' V' f' s.h ∧ κ e ks' = some r ∧ Ext F ks V ks' V'
theorem PostC.ext {F : KF} {ks ks1 : KS} {V V1 : Vl} {R : Type} {κ : Ex → KS → Option R} {r : R} {e : Ex} {s : St} (he : Ext F ks V ks1 V1) (h : PostC F ks1 V1 κ r e s) : PostC F ks V κ r e s := let ⟨ks', V', f', h1, h2, h3, h4⟩ := h; ⟨ks', V', f', h1, h2, h3, he.trans h4⟩
def JX (F : KF) (ks : KS) (V : Vl) (keep dead : List Nat) : (l : List (Ex × Pt)) → XT l → Ex → St → Prop
 | [], x, _, _ => nomatch x
 | x :: r, .inl v, e, s => e = x.1 ∧ ∃ V' f', s.t = tab F.nt f' ∧ Rel F (afterS F ks keep dead x.2 v) V' f' s.h ∧ Ext F ks V (afterS F ks keep dead x.2 v) V'
 | x :: r, .inr v, e, s => JX F ks V keep dead r v e s
theorem JX_n {F : KF} {ks : KS} {V : Vl} {keep dead : List Nat} : ∀ {l : List (Ex × Pt)}, (∀ x ∈ l, exEq x.1 .normal = false) → ∀ (x : XT l) (s : St), ¬ JX F ks V keep dead l x .normal s
 | [], hl, x, s => nomatch x
 | x :: r, hl, .inl v, s => fun h => by have := hl x (by simp); rw [← h.1] at this; simp [exEq] at this
 | x :: r, hl, .inr v, s => JX_n (fun z hz => hl z (by simp [hz])) v s
theorem afterX_ok {F : KF} {ks : KS} {V : Vl} {keep dead : List Nat} {R : Type} {r : R} {κ : Ex → KS → Option R} : ∀ {l : List (Ex × Pt)} {x : XT l} {e : Ex} {s : St}, afterX F ks keep dead l x κ = some r → JX F ks V keep dead l x e s → PostC F ks V κ r e s
 | [], x, e, s, h, hj => nomatch x
 | x :: l, .inl v, e, s, h, ⟨he, V', f', h1, h2, h3⟩ => ⟨_, V', f', h1, h2, by rw [he]; exact h, h3⟩
 | x :: l, .inr v, e, s, h, hj => afterX_ok (l := l) (x := v) h hj
end K
end Ev
end Go.Proofs.Ytlkcneneagifoaa
end
section
namespace Go.Proofs.Ytlkcneneagifoaa
namespace Ev
namespace K
open Go Go.RowKit
set_option linter.unusedVariables false
set_option linter.unusedSimpArgs false
section
variable {E : Env} {y : Nat → YldP} {n : Nat} {G : KG} {D0 : Nat}
theorem wpc_cutK {id : Nat} {l : List Oper} {Q : Ex → St → Prop} {t : List D} {H : Heap} (m : Nat) (hc : cutAt l.toArray = some m) (hq : drawOkP l.toArray = true) (h1 : holdsQ (fun t => OpsW E y n l.toArray (l.drop m) (Q .normal) { t, h := H ++ List.replicate l.toArray.size .no }) (evR E (cpR E n) l.toArray (H ++ List.replicate l.toArray.size .no) H.length 0 (l.take m) t)) : WpC E y n (.region id l.toArray true) Q { t, h := H } := by
 rw [evR_eq] at h1
 cases hs : evQ E (cpR E n) l.toArray (H ++ List.replicate l.toArray.size .no) H.length 0 (l.take m) t with
 | none => rw [hs] at h1; exact h1.elim
 | some t' =>
  rw [hs] at h1
  obtain ⟨s', ⟨M1, h2⟩, h3⟩ := h1
  obtain ⟨M2, h4⟩ := evDraw2_evt _ _ _ _ _ _ _ (evQ_draw2 _ _ _ _ hs)
  have hq' : drawOk l.toArray H.length (bef l.toArray) (fun _ => []) = true := hq
  refine ⟨.normal, s', ⟨max M1 M2, fun q hm => ?_⟩, h3⟩
  simp only [evC, if_true, hc]
  unfold evCut
  simp only [Option.bind_eq_bind]
  rw [if_pos hq']
  rw [callersY_fst, h4 q (by omega)]
  simp only [Option.bind_some]
  have := h2 q (by omega)
  rw [callersY_fst] at this
  rw [this]
  rfl
theorem holdsQ_mono {α : Type} {Q Q' : α → Prop} {o : Option α} (h : holdsQ Q o) (hq : ∀ a, Q a → Q' a) : holdsQ Q' o := by
 cases o with
 | none => exact h
 | some a => exact hq a h
section loop
variable {F : KF} {ks : KS} {V : Vl} {f : Nat → D} {h : Heap} {a : LoopA} {cs : List KC} {x0 : prodT a.head.sh}
theorem frame_sl (hok : okEnd F ks = true) {i : Nat} {d : KD} (hd : look (frameL F ks a cs).sl i = some d) : getS F ks i = some d := by
 have hd' : look (keepS F ks a.keep ++ F.sl) i = some d := hd
 rw [look_append] at hd'
 unfold lookF at hd'
 cases hk : look (keepS F ks a.keep) i with
 | none => rw [hk] at hd'; exact (okEnd_look hok hd').2
 | some d' => rw [hk] at hd'; cases hd'; unfold getS lookF; rw [keepS_look hk]
theorem frame_ptr (hok : okEnd F ks = true) {ks2 : KS} (hok2 : okEnd (frameL F ks a cs) ks2 = true) {pt : Pt} (hbs : bsOk F ks (frameL F ks a cs) pt = true) : ∀ v ∈ pt.bs, ptrAt (frameL F ks a cs) ks2 v.1 = ptrAt F ks v.1 := by
 intro v hv
 have h1 := List.all_eq_true.1 ((Bool.and_eq_true _ _).mp hbs).1 v hv
 cases hl : look (frameL F ks a cs).sl v.1 with
 | none => rw [hl] at h1; simp at h1
 | some d =>
  unfold ptrAt
  rw [(okEnd_look hok2 hl).2, frame_sl hok hl]
theorem stateP_look {pt : Pt} {v : prodT pt.sh} {p : Nat} {b : KB} (hl : look (stateP F ks pt v).bl p = some b) : look (boxesP F ks pt.bs (((writeCs pt.sh v ks.nx).map (·.1)).drop (lenV pt.vs))) p = some b ∨ look (rowsP F ks pt.ws ((wCs pt.sh v).drop (lenV pt.vs + lenB pt.bs))) p = some b ∨ look ((writeCs pt.sh v ks.nx).flatMap (·.2)) p = some b := by
 have h1 : look (boxesP F ks pt.bs (((writeCs pt.sh v ks.nx).map (·.1)).drop (lenV pt.vs)) ++ (rowsP F ks pt.ws ((wCs pt.sh v).drop (lenV pt.vs + lenB pt.bs)) ++ (writeCs pt.sh v ks.nx).flatMap (·.2))) p = some b := hl
 rw [look_append] at h1
 unfold lookF at h1
 cases hb : look (boxesP F ks pt.bs (((writeCs pt.sh v ks.nx).map (·.1)).drop (lenV pt.vs))) p with
 | some b' => rw [hb] at h1; exact .inl h1
 | none =>
  rw [hb] at h1
  change look (_ ++ _) p = some b at h1
  rw [look_append] at h1
  unfold lookF at h1
  cases hc : look (rowsP F ks pt.ws ((wCs pt.sh v).drop (lenV pt.vs + lenB pt.bs))) p with
  | some b' => rw [hc] at h1; exact .inr (.inl h1)
  | none => rw [hc] at h1; exact .inr (.inr h1)
theorem stateP_none {pt : Pt} {v : prodT pt.sh} {p : Nat} (h1 : ∀ w ∈ pt.bs, ptrAt F ks w.1 ≠ some p) (h2 : ∀ w ∈ pt.ws, rowId F ks w.1 ≠ some p) (hp : p < ks.nx) : look (stateP F ks pt v).bl p = none := by
 cases hl : look (stateP F ks pt v).bl p with
 | none => rfl
 | some b =>
  rcases stateP_look hl with h | h | h
  ·rw [boxesP_none h1] at h; simp at h
  ·rw [rowsP_none h2] at h; simp at h
  ·rw [holes_none hp] at h; simp at h
theorem behind_look {pt : Pt} {v : prodT pt.sh} {rest : List (Nat × KB)} {G : KF} {kb : KS} {p : Nat} {b : KB} (hkb : ∀ p, lookF kb.bl G.bl p = look ((stateP F ks pt v).bl ++ rest) p) (hb : getB G kb p = some b) : look (boxesP F ks pt.bs (((writeCs pt.sh v ks.nx).map (·.1)).drop (lenV pt.vs))) p = some b ∨ look (rowsP F ks pt.ws ((wCs pt.sh v).drop (lenV pt.vs + lenB pt.bs))) p = some b ∨ look ((writeCs pt.sh v ks.nx).flatMap (·.2)) p = some b ∨ (look (stateP F ks pt v).bl p = none ∧ look rest p = some b ∧ b ≠ .dead) := by
 unfold getB at hb
 rw [hkb, look_append] at hb
 unfold lookF at hb
 cases hl : look (stateP F ks pt v).bl p with
 | some b' =>
  rw [hl] at hb
  have hbb : b' = b := by cases b' <;> simp at hb <;> exact hb
  subst hbb
  rcases stateP_look hl with h1 | h1 | h1
  ·exact .inl h1
  ·exact .inr (.inl h1)
  ·exact .inr (.inr (.inl h1))
 | none =>
  rw [hl] at hb
  cases hr : look rest p with
  | none => rw [hr] at hb; simp at hb
  | some b' =>
   rw [hr] at hb
   cases b' with
   | dead => simp at hb
   | _ => simp at hb; subst hb; exact .inr (.inr (.inr ⟨rfl, rfl, by simp⟩))
theorem behind_hole {pt : Pt} {v : prodT pt.sh} {rest : List (Nat × KB)} {G : KF} {kb : KS} (hr : Rel F ks V f h) (hkb : ∀ p, lookF kb.bl G.bl p = look ((stateP F ks pt v).bl ++ rest) p) {p : Nat} {b : KB} (hb : (p, b) ∈ (writeCs pt.sh v ks.nx).flatMap (·.2)) : getB G kb p = some b := by
 obtain ⟨g1, g2, g3⟩ := holes_look (q0 := 0) hb
 unfold getB
 rw [hkb, look_append]
 unfold lookF
 have h1 : look (stateP F ks pt v).bl p = some b := by
  show look (boxesP F ks pt.bs (((writeCs pt.sh v ks.nx).map (·.1)).drop (lenV pt.vs)) ++ (rowsP F ks pt.ws ((wCs pt.sh v).drop (lenV pt.vs + lenB pt.bs)) ++ (writeCs pt.sh v ks.nx).flatMap (·.2))) p = some b
  rw [look_append]
  unfold lookF
  rw [boxesP_none fun w hw he => by have := ptr_lt hr he; omega]
  show look (_ ++ _) p = some b
  rw [look_append]
  unfold lookF
  rw [rowsP_none fun w hw he => by have := row_lt hr he; omega]
  exact g1
 rw [h1]
 cases b <;> first | rfl | exact absurd rfl g3
theorem head_none (hcs : cellsP F ks a.head = some cs) {x : prodT a.head.sh} {p : Nat} (hp : p < ks.nx) (hd : p ∉ deadIds F ks a cs) : look (stateP F ks a.head x).bl p = none :=
 stateP_none (fun w hw he => hd (List.mem_append.2 (.inr (boxIds_mem hw he)))) (fun w hw he => hd (List.mem_append.2 (.inl (by
  obtain ⟨q, h1, h2⟩ := cellsW_own hcs hw
  rw [he] at h1
  cases h1
  exact h2)))) hp
theorem loop_in (hr : Rel F ks V f h) (hok : okEnd F ks = true) (hcs : cellsP F ks a.head = some cs) (hnd : nodupB (ownIds cs) = true) (hrd : RdCs ks a.head.sh cs x0) : ∃ V1, Rel (frameL F ks a cs) (stateP F ks a.head x0) V1 f h ∧ Agree ks.nx V V1 ∧ LeB ks.nx (getB F ks) (getB (frameL F ks a cs) (stateP F ks a.head x0)) := by
 have hkb : ∀ p, lookF (stateP F ks a.head x0).bl (frameL F ks a cs).bl p = look ((stateP F ks a.head x0).bl ++ ((deadIds F ks a cs).map (fun p => (p, KB.dead)) ++ (ks.bl ++ F.bl))) p := fun p => (look_append _ _ p).symm
 refine trans hr hcs hrd hnd (Nat.le_refl _) rfl rfl (fun i d hd => ?_) (fun p b hb => ?_) (fun p b hb => behind_hole hr hkb hb) (fun v hv p hp => ptr_lt hr hp) (fun v hv p hp => row_lt hr hp)
 ·have hd' : lookF (slotsP a.head.vs ((writeCs a.head.sh x0 ks.nx).map (·.1))) (frameL F ks a cs).sl i = some d := hd
  unfold lookF at hd'
  cases hl : look (slotsP a.head.vs ((writeCs a.head.sh x0 ks.nx).map (·.1))) i with
  | some d' => rw [hl] at hd'; cases hd'; exact .inl rfl
  | none =>
   rw [hl] at hd'
   have h1 := frame_sl hok hd'
   exact .inr ⟨h1, (hr.sl i d h1).2.1⟩
 ·rcases behind_look hkb hb with h1 | h1 | h1 | ⟨h1, h2, h3⟩
  ·exact .inl h1
  ·exact .inr (.inl h1)
  ·exact .inr (.inr (.inl h1))
  ·obtain ⟨g1, g2⟩ := frame_bl h2 h3
   obtain ⟨k1, k2, _⟩ := hr.bl p b g2
   exact .inr (.inr (.inr ⟨g2, k1, k2, fun hm => g1 (List.mem_append.2 (.inl hm)), fun v hv he => g1 (List.mem_append.2 (.inr (boxIds_mem hv he)))⟩))
variable {ks2 : KS} {V1 V2 : Vl} {f2 : Nat → D} {h2 : Heap} {x1 : prodT a.head.sh} {pt : Pt} {cs2 : List KC} {v : prodT pt.sh}
theorem loop_stay (hr : Rel F ks V f h) (hcs : cellsP F ks a.head = some cs) (hext : Ext (frameL F ks a cs) (stateP F ks a.head x1) V1 ks2 V2) {p : Nat} {b : KB} (hb : look ((deadIds F ks a cs).map (fun p => (p, KB.dead)) ++ (ks.bl ++ F.bl)) p = some b) (hd : b ≠ .dead) : getB (frameL F ks a cs) ks2 p = some b ∧ p < ks.nx ∧ ScB ks.nx b ∧ look ks2.bl p = none := by
 obtain ⟨g1, g2⟩ := frame_bl hb hd
 obtain ⟨k1, k2, _⟩ := hr.bl p b g2
 have h1 : look (stateP F ks a.head x1).bl p = none := head_none hcs k1 g1
 have h2 := hext.dom p (by show p < ks.nx + _; omega) h1
 refine ⟨?_, k1, k2, h2⟩
 unfold getB lookF
 rw [h2]
 show (match look ((deadIds F ks a cs).map (fun p => (p, KB.dead)) ++ (ks.bl ++ F.bl)) p with
  | some .dead => none
  | x => x) = some b
 rw [hb]
 cases b <;> first | rfl | exact absurd rfl hd
theorem frame_row (hr : Rel F ks V f h) (hok2 : okEnd (frameL F ks a cs) ks2 = true) (hcs : cellsP F ks a.head = some cs) (hext : Ext (frameL F ks a cs) (stateP F ks a.head x1) V1 ks2 V2) (hbs : bsOk F ks (frameL F ks a cs) pt = true) : ∀ w ∈ pt.ws, ∃ p, rowId (frameL F ks a cs) ks2 w.1 = some p ∧ rowId F ks w.1 = some p := by
 intro w hw
 have h1 := List.all_eq_true.1 ((Bool.and_eq_true _ _).mp hbs).2 w hw
 split at h1
 ·rename_i p q hp hq
  have hpq : p = q := Nat.eq_of_beq_eq_true h1
  subst hpq
  refine ⟨p, ?_, hp⟩
  have hsl : ∀ i d, getS (frameL F ks a cs) kNil i = some d → getS (frameL F ks a cs) ks2 i = some d := fun i d hd => (okEnd_look hok2 (show look (frameL F ks a cs).sl i = some d from hd)).2
  have hpt : ∀ i d, ptrAt (frameL F ks a cs) kNil i = some d → ptrAt (frameL F ks a cs) ks2 i = some d := by
   intro i d hd
   unfold ptrAt at hd ⊢
   split at hd
   ·rename_i p j hg
    rw [hsl _ _ hg]
    exact hd
   ·simp at hd
  unfold rowId at hq ⊢
  have key : brC (frameL F ks a cs) kNil w.1 = brC (frameL F ks a cs) ks2 w.1 ∨ brC (frameL F ks a cs) kNil w.1 = none := by
   cases w.1 with
   | sl i j =>
    simp only [brC]
    cases hg : getS (frameL F ks a cs) kNil i with
    | none => exact .inr rfl
    | some d => rw [hsl _ _ hg]; exact .inl rfl
   | bx i j =>
    simp only [brC]
    cases hg : ptrAt (frameL F ks a cs) kNil i with
    | none => exact .inr rfl
    | some d =>
     rw [hpt _ _ hg]
     simp only
     cases hl : lookF kNil.bl (frameL F ks a cs).bl d with
     | none => exact .inr rfl
     | some b =>
      cases b with
      | box bc =>
       obtain ⟨_, _, _, g4⟩ := loop_stay hr hcs hext (show look ((deadIds F ks a cs).map (fun p => (p, KB.dead)) ++ (ks.bl ++ F.bl)) d = some (.box bc) from hl) (by simp)
       have : lookF ks2.bl (frameL F ks a cs).bl d = some (.box bc) := by unfold lookF; rw [g4]; exact hl
       rw [this]
       exact .inl rfl
      | _ => exact .inr rfl
  rcases key with k | k
  ·rw [← k]; exact hq
  ·rw [k] at hq; simp at hq
 ·simp at h1
theorem dom_in (hcs : cellsP F ks a.head = some cs) (hrd : RdCs ks a.head.sh cs x0) (hext : Ext (frameL F ks a cs) (stateP F ks a.head x1) V1 ks2 V2) {p : Nat} (hp : p < ks.nx) (hl : look ks.bl p = none) : look ks2.bl p = none := by
 obtain ⟨ca, cb, cw, _, hcb, _, _⟩ := cellsP_some hcs
 refine hext.dom p (by show p < ks.nx + _; omega) (stateP_none (fun w hw he => ?_) (fun w hw he => ?_) hp)
 ·obtain ⟨q, c, j1, j2⟩ := cellsB_ptr hcb w hw
  rw [he] at j1
  cases j1
  rw [hl] at j2; simp at j2
 ·obtain ⟨q, j1, j2⟩ := cellsW_own hcs hw
  rw [he] at j1
  cases j1
  obtain ⟨b, k1, _⟩ := rdCs_own hrd j2
  rw [hl] at k1; simp at k1
theorem loop_to {Fb : KF} {kb : KS} (hr : Rel F ks V f h) (hok : okEnd F ks = true) (hcs : cellsP F ks a.head = some cs) (hr2 : Rel (frameL F ks a cs) ks2 V2 f2 h2) (hok2 : okEnd (frameL F ks a cs) ks2 = true) (hext : Ext (frameL F ks a cs) (stateP F ks a.head x1) V1 ks2 V2) (hbs : bsOk F ks (frameL F ks a cs) pt = true) (hcs2 : cellsP (frameL F ks a cs) ks2 pt = some cs2) (hnd2 : nodupB (ownIds cs2) = true) (hrd2 : RdCs ks2 pt.sh cs2 v)
  (hnt : Fb.nt = F.nt) (hnx : kb.nx = ks.nx + pt.sh.length) (hsl : ∀ i d, getS Fb kb i = some d → look (slotsP pt.vs ((writeCs pt.sh v ks.nx).map (·.1))) i = some d ∨ look (frameL F ks a cs).sl i = some d) (hkb : ∀ p, lookF kb.bl Fb.bl p = look ((stateP F ks pt v).bl ++ ((deadIds F ks a cs).map (fun p => (p, KB.dead)) ++ (ks.bl ++ F.bl))) p) : ∃ V3, Rel Fb kb V3 f2 h2 ∧ Agree ks.nx V2 V3 ∧ LeB ks.nx (getB (frameL F ks a cs) ks2) (getB Fb kb) := by
 have hptr := frame_ptr hok hok2 hbs
 have hrow := frame_row hr hok2 hcs hext hbs
 have hnx2 : ks.nx ≤ ks2.nx := Nat.le_trans (by show ks.nx ≤ ks.nx + _; omega) hext.nx
 obtain ⟨ca, cb, cw, _, hcb2, _, _⟩ := cellsP_some hcs2
 refine trans (N0 := ks.nx) hr2 hcs2 hrd2 hnd2 hnx2 hnt hnx (fun i d hd => ?_) (fun p b hb => ?_) (fun p b hb => behind_hole hr hkb hb) (fun w hw p hp => ?_) (fun w hw p hp => ?_)
 ·rcases hsl i d hd with h1 | h1
  ·exact .inl h1
  ·have h3 := frame_sl hok h1
   exact .inr ⟨(okEnd_look hok2 h1).2, (hr.sl i d h3).2.1⟩
 ·rw [boxesP_same hptr, rowsP_same (fun w hw => by obtain ⟨q, e1, e2⟩ := hrow w hw; exact e1.trans e2.symm)]
  rcases behind_look hkb hb with h1 | h1 | h1 | ⟨h1, h3, h4⟩
  ·exact .inl h1
  ·exact .inr (.inl h1)
  ·exact .inr (.inr (.inl h1))
  ·-- a block of the head's frame
   obtain ⟨g1, g2, g3, g4⟩ := loop_stay hr hcs hext h3 h4
   refine .inr (.inr (.inr ⟨g1, g2, g3, fun hm => ?_, fun w hw he => ?_⟩))
   ·obtain ⟨b', e1, _⟩ := rdCs_own hrd2 hm
    rw [g4] at e1; simp at e1
   ·obtain ⟨p', c, e1, e2⟩ := cellsB_ptr hcb2 w hw
    rw [he] at e1
    cases e1
    rw [g4] at e2; simp at e2
 ·rw [hptr w hw] at hp
  exact ptr_lt hr hp
 ·obtain ⟨q, e1, e2⟩ := hrow w hw
  rw [hp] at e1
  cases e1
  exact row_lt hr e2
end loop
end
end K
end Ev
end Go.Proofs.Ytlkcneneagifoaa
end
section
namespace Go.Proofs.Ytlkcneneagifoaa
namespace Ev
namespace K
open Go Go.RowKit
set_option linter.unusedVariables false
set_option linter.unusedSimpArgs false
theorem any_beq {ids : List Nat} {p : Nat} (h : (!(ids.any (Nat.beq p))) = true) : p ∉ ids := by
 intro hp
 have : ids.any (Nat.beq p) = true := List.any_eq_true.2 ⟨p, hp, Nat.beq_refl p⟩
 rw [this] at h; simp at h
theorem look_blE {e : KE} {nid p : Nat} {bl bl' : List (Nat × KB)} (h : look bl p = look bl' p) : look (blE e nid bl) p = look (blE e nid bl') p := by
 have h1 : look (blU e bl) p = look (blU e bl') p := by
  unfold blU
  cases e.upd with
  | none => exact h
  | some x => show look ((x.1, x.2) :: bl) p = look ((x.1, x.2) :: bl') p; rw [look_cons, look_cons, h]
 unfold blE
 cases e.new with
 | none => exact h1
 | some b => simp only [look_cons, h1]
section free
variable {B B' : BK} {V : Vl} {ids : List Nat} (hb : ∀ p, p ∉ ids → B' p = B p)
include hb
theorem RC.free {c : KC} {x : C} (hf : freeC ids c = true) (h : RC B V c x) : RC B' V c x := by
 cases c with
 | o e p => intro e' ne l hl; rw [hb p (any_beq (ids := ids) (p := p) hf)] at hl; exact h e' ne l hl
 | m e p => intro e' l hl; rw [hb p (any_beq (ids := ids) (p := p) hf)] at hl; exact h e' l hl
 | _ => exact h
theorem RCs.free : ∀ {l : List KC} {xs : List C}, l.all (freeC ids) = true → RCs B V l xs → RCs B' V l xs
 | [], xs, hf, h => h
 | c :: l, xs, hf, ⟨x, s, e, h1, h2⟩ => by
  rw [List.all_cons, Bool.and_eq_true] at hf
  exact ⟨x, s, e, RC.free hb hf.1 h1, RCs.free hf.2 h2⟩
theorem RD1.free {k : KD} {d : D} (hf : freeD ids k = true) (h : RD1 B V k d) : RD1 B' V k d := by
 cases k with
 | one c => obtain ⟨c', h1, h2⟩ := h; exact ⟨c', h1, RC.free hb hf h2⟩
 | agg cs => obtain ⟨c', h1, h2⟩ := h; exact ⟨c', h1, RCs.free hb hf h2⟩
 | tup ts => exact h
omit hb in
theorem mkD_free {x : Bool × List KC} (hf : x.2.all (freeC ids) = true) : freeD ids (mkD x) = true := by
 obtain ⟨b, cs⟩ := x
 cases b with
 | true => exact hf
 | false => match cs, hf with
  | [], hf => exact hf
  | [c], hf => simpa [mkD, freeD] using hf
  | c :: d :: r, hf => exact hf
theorem RTs.free : ∀ {l : List (Bool × List KC)} {xs : List D}, (l.all fun x => x.2.all (freeC ids)) = true → RTs B V l xs → RTs B' V l xs
 | [], xs, hf, h => h
 | c :: l, xs, hf, ⟨x, s, e, h1, h2⟩ => by
  rw [List.all_cons, Bool.and_eq_true] at hf
  exact ⟨x, s, e, RD1.free hb (mkD_free hf.1) h1, RTs.free hf.2 h2⟩
theorem RD.free {k : KD} {d : D} (hf : freeD ids k = true) (h : RD B V k d) : RD B' V k d := by
 cases k with
 | one c => exact RD1.free (k := .one c) hb hf h
 | agg cs => exact RD1.free (k := .agg cs) hb hf h
 | tup ts => obtain ⟨ds, h1, h2⟩ := h; exact ⟨ds, h1, RTs.free hb hf h2⟩
theorem BlkIs.free {b : KB} {x : Blk} (hf : freeB ids b = true) (h : BlkIs B V x b) : BlkIs B' V x b := by
 cases b with
 | box cs => obtain ⟨sz, cs', g1, g2⟩ := h; exact ⟨sz, cs', g1, RCs.free hb hf g2⟩
 | rows e ne l => exact h
 | mrows e l => exact h
 | dead => exact h
end free
theorem freeD_norm {ids : List Nat} {tag : Nat} {d : KD} : freeD ids (normD tag d) = freeD ids d := by
 unfold normD
 split <;> rfl
section
variable {E : Env} {y : Nat → YldP} {n : Nat} {F : KF} {ks : KS} {V : Vl} {f : Nat → D} {h : Heap} {M tag nid : Nat} {op : Op} {G : KG} {D0 : Nat} {R : Type} {r : R}
theorem maskK_look {ids : List Nat} {p : Nat} : look (maskK ids ks).bl p = if p ∈ ids then some .dead else look ks.bl p := by
 show look (ids.map (fun p => (p, KB.dead)) ++ ks.bl) p = _
 rw [look_append]
 unfold lookF
 rcases look_dead (l := ids) (p := p) with ⟨h1, h2⟩ | ⟨h1, h2⟩
 ·rw [h1, if_neg h2]
 ·rw [h1, if_pos h2]
theorem maskK_getB {ids : List Nat} {p : Nat} : getB F (maskK ids ks) p = if p ∈ ids then none else getB F ks p := by
 unfold getB lookF
 rw [maskK_look]
 by_cases hp : p ∈ ids
 ·rw [if_pos hp, if_pos hp]
 ·rw [if_neg hp, if_neg hp]
theorem be_mask {ids : List Nat} {e : KE} {p : Nat} (hp : p ∉ ids) : Be F (maskK ids ks) nid e p = Be F ks nid e p := by
 have := look_blE (e := e) (nid := nid) (show look (maskK ids ks).bl p = look ks.bl p by rw [maskK_look, if_neg hp])
 unfold Be getB lookF
 simp only [this]
theorem mask_rel {ids ms : List Nat} (hr : Rel F ks V f h) (hm : ∀ p b, getB F ks p = some b → b.there → V.id p ∈ ms → p ∈ ids) : Rel F (maskK ids ks) V f (mask h ms) := by
 have hle : LeB ks.nx (getB F ks) (getB F (maskK ids ks)) := fun p hp => by
  rw [maskK_getB]
  split
  ·exact ⟨fun e ne l h => by simp at h, fun e l h => by simp at h⟩
  ·exact ⟨fun e ne l h => ⟨e, ne, l, h, rfl⟩, fun e l h => ⟨e, l, h, rfl⟩⟩
 refine ⟨fun i d hd => ?_, fun p b hb => ?_, fun p q b b' hp hq => ?_⟩
 ·obtain ⟨g1, g2, g3⟩ := hr.sl i d hd
  exact ⟨g1, g2, g3.mono g2 hle (Agree.refl _ _)⟩
 ·rw [maskK_getB] at hb
  split at hb
  ·simp at hb
  ·rename_i hp
   obtain ⟨g1, g2, g3⟩ := hr.bl p b hb
   refine ⟨g1, g2, ?_⟩
   have g4 := g3.mono g2 hle (Agree.refl _ _)
   by_cases ht : b.there
   ·exact g4.heap (by rw [getBlk_mask, if_neg fun hh => hp (hm p b hb ht hh)])
   ·cases b with
    | mrows e l => exact fun hl => absurd hl ht
    | dead => trivial
    | box cs => exact absurd trivial ht
    | rows e ne l => exact absurd trivial ht
 ·rw [maskK_getB] at hp hq
  split at hp
  ·simp at hp
  ·split at hq
   ·simp at hq
   ·exact hr.inj p q b b' hp hq
open Classical in
noncomputable def oId (ks : KS) (V : Vl) (p : Nat) : List Nat := if ∃ b, look ks.bl p = some b ∧ b.there then [V.id p] else []
noncomputable def oIdl (ks : KS) (V : Vl) (l : List Nat) : List Nat := l.flatMap (oId ks V)
noncomputable def oIds (ks : KS) (V : Vl) (O : List (List Nat)) : List (List Nat) := O.map (oIdl ks V)
theorem oIds_getD {O : List (List Nat)} {j : Nat} : (oIds ks V O).getD j [] = oIdl ks V (O.getD j []) := by
 unfold oIds
 rw [List.getD_eq_getElem?_getD, List.getElem?_map, List.getD_eq_getElem?_getD]
 cases O[j]? <;> rfl
theorem oIdl_mem {l : List Nat} {x : Nat} (h : x ∈ oIdl ks V l) : ∃ p ∈ l, ∃ b, look ks.bl p = some b ∧ b.there ∧ x = V.id p := by
 unfold oIdl at h
 obtain ⟨p, hp, hx⟩ := List.mem_flatMap.1 h
 unfold oId at hx
 split at hx
 ·rename_i hh; obtain ⟨b, h1, h2⟩ := hh; exact ⟨p, hp, b, h1, h2, by simpa using hx⟩
 ·simp at hx
theorem there_ne {b : KB} (h : b.there) : b ≠ .dead := by rintro rfl; exact h
theorem there_lt (hr : Rel F ks V f h) {p : Nat} {b : KB} (hp : getB F ks p = some b) (ht : b.there) : V.id p < h.length :=
 let ⟨_, hz⟩ := there_some (hr.bl p b hp).2.2 ht; getBlk_lt hz
theorem dj_oIds (hr : Rel F ks V f h) : ∀ {os rs O : List (List Nat)}, djB os rs O = true → DJ (oIds ks V os) rs (oIds ks V O)
 | [], rs, O, _ => by cases rs <;> trivial
 | o :: os, [], O, _ => trivial
 | o :: os, r :: rs, O, hd => by
  have hd' : ((r.all fun j => disjB o (O.getD j [])) && djB os rs O) = true := hd
  rw [Bool.and_eq_true] at hd'
  refine ⟨fun j hj x hx => ?_, dj_oIds hr hd'.2⟩
  rw [oIds_getD]
  intro hx2
  obtain ⟨p, p1, b, p2, p3, rfl⟩ := oIdl_mem hx
  obtain ⟨q, q1, b', q2, q3, q4⟩ := oIdl_mem hx2
  have := hr.inj p q b b' (getB_of_look p2 (there_ne p3)) (getB_of_look q2 (there_ne q3)) p3 q3 q4
  subst this
  have h1 := List.all_eq_true.1 hd'.1 j hj
  unfold disjB at h1
  exact any_beq (List.all_eq_true.1 h1 p p1) q1
theorem oIds_lt (hr : Rel F ks V f h) {O : List (List Nat)} : ∀ l ∈ oIds ks V O, ∀ k ∈ l, k < h.length := by
 intro l hl k hk
 obtain ⟨o, h1, rfl⟩ := List.mem_map.1 hl
 obtain ⟨p, _, b, p2, p3, rfl⟩ := oIdl_mem hk
 exact there_lt hr (getB_of_look p2 (there_ne p3)) p3
section
variable {Rl O : List (List Nat)} {N : List (Bool × List Nat)} {nw : List (Nat × Nat)} {i j p q : Nat}
theorem maskIds_old (hj : j ∈ Rl.getD i []) (hp : p ∈ O.getD j []) : p ∈ maskIds Rl O N nw i := List.mem_flatMap.2 ⟨j, hj, List.mem_append.2 (.inl hp)⟩
theorem maskIds_upd (hj : j ∈ Rl.getD i []) (hq : q ∈ (N.getD j (false, [])).2) (hp : look nw q = some p) : p ∈ maskIds Rl O N nw i := List.mem_flatMap.2 ⟨j, hj, List.mem_append.2 (.inr (List.mem_append.2 (.inl (List.mem_flatMap.2 ⟨q, hq, by rw [hp]; exact List.mem_singleton.2 rfl⟩))))⟩
theorem maskIds_new (hj : j ∈ Rl.getD i []) (hn : (N.getD j (false, [])).1 = true) (hp : look nw j = some p) : p ∈ maskIds Rl O N nw i := List.mem_flatMap.2 ⟨j, hj, List.mem_append.2 (.inr (List.mem_append.2 (.inr (by rw [hn, hp]; exact List.mem_singleton.2 rfl))))⟩
end
structure TInv (F : KF) (ks0 : KS) (V0 : Vl) (b w : Nat) (nw : List (Nat × Nat)) (i : Nat) (ks : KS) (V : Vl) (f : Nat → D) (H : Heap) : Prop where
 rel : Rel F ks V f H
 ext : Ext F ks0 V0 ks V
 len : H.length = b + w
 th : ∀ p bl, getB F ks p = some bl → bl.there → (p < ks0.nx ∧ ∃ b0, getB F ks0 p = some b0 ∧ b0.there) ∨ ∃ j, look nw j = some p
 nw : ∀ j q, look nw j = some q → j < i ∧ V.id q = b + j ∧ q < ks.nx
 free : ∀ j, i ≤ j → getBlk H (b + j) = none
section
variable {ks0 : KS} {V0 : Vl} {f0 : Nat → D} {h0 : Heap} {w i : Nat} {nw : List (Nat × Nat)} {H : Heap} {Rl O : List (List Nat)} {N : List (Bool × List Nat)}
theorem TInv.mask (hr0 : Rel F ks0 V0 f0 h0) (hi : TInv F ks0 V0 h0.length w nw i ks V f H) {p : Nat} {bl : KB} (hp : getB F ks p = some bl) (ht : bl.there) (hm : V.id p ∈ (Rl.getD i []).flatMap (turnsOf h0.length (oIds ks0 V0 O) N)) : p ∈ maskIds Rl O N nw i := by
 obtain ⟨j, hj, hx⟩ := List.mem_flatMap.1 hm
 unfold turnsOf at hx
 rw [oIds_getD] at hx
 rcases hi.th p bl hp ht with ⟨h1, b0, h2, h3⟩ | ⟨j0, h1⟩
 ·rw [(hi.ext.agree p h1).1] at hx
  have hlt := there_lt hr0 h2 h3
  rcases List.mem_append.1 hx with hx | hx
  ·obtain ⟨q, q1, b1, q2, q3, q4⟩ := oIdl_mem hx
   have := hr0.inj p q b0 b1 h2 (getB_of_look q2 (there_ne q3)) h3 q3 q4
   subst this
   exact maskIds_old hj q1
  ·exfalso
   rcases List.mem_append.1 hx with hx | hx
   ·obtain ⟨k, _, hk⟩ := List.mem_map.1 hx; omega
   ·split at hx
    ·have := List.mem_singleton.1 hx; omega
    ·simp at hx
 ·obtain ⟨h2, h3, h4⟩ := hi.nw j0 p h1
  rw [h3] at hx
  rcases List.mem_append.1 hx with hx | hx
  ·obtain ⟨q, q1, b1, q2, q3, q4⟩ := oIdl_mem hx
   have := there_lt hr0 (getB_of_look q2 (there_ne q3)) q3
   omega
  ·rcases List.mem_append.1 hx with hx | hx
   ·obtain ⟨k, k1, k2⟩ := List.mem_map.1 hx
    have : k = j0 := by omega
    subst this
    exact maskIds_upd hj k1 h1
   ·split at hx
    ·rename_i hn
     have := List.mem_singleton.1 hx
     have : j0 = j := by omega
     subst this
     exact maskIds_new hj hn h1
    ·simp at hx
theorem isM_there {b : KB} (h1 : isM b = false) (h2 : b ≠ .dead) : b.there := by
 cases b with
 | mrows e l => simp [isM] at h1
 | dead => exact absurd rfl h2
 | box cs => trivial
 | rows e ne l => trivial
theorem upd_ids (hr0 : Rel F ks0 V0 f0 h0) (hi : TInv F ks0 V0 h0.length w nw i ks V f H) {p : Nat} {b0 : KB} (hb : look ks.bl p = some b0) (hd : b0 ≠ .dead) {uo : List (Nat × Blk)} (huo : (b0.there ∧ ∃ x, uo = [(V.id p, x)]) ∨ (¬ b0.there ∧ uo = [])) : ∀ (P Q : List Nat), updOk ks0 ks nw p P Q = true → uo.map (·.1) = oIdl ks0 V0 P ++ Q.map (h0.length + ·) ∧ ∀ x ∈ oIdl ks0 V0 P ++ Q.map (h0.length + ·), x < h0.length + i
 | [q], [], ho => by
  have ho' : (Nat.beq p q && oldOk ks0 ks p) = true := ho
  rw [Bool.and_eq_true] at ho'
  have := Nat.eq_of_beq_eq_true ho'.1
  subst this
  have h2 := ho'.2
  unfold oldOk at h2
  split at h2
  ·rename_i x0 y0 hx0 hy0
   rw [hb] at hy0
   cases hy0
   have hx0d : x0 ≠ .dead := by rintro rfl; simp at h2
   have hm : isM x0 = isM b0 := by
    cases x0 with
    | dead => exact absurd rfl hx0d
    | _ => simpa using h2
   have hp0 := (hr0.bl p x0 (getB_of_look hx0 hx0d)).1
   have key : x0.there ↔ b0.there := by
    cases x0 with
    | dead => exact absurd rfl hx0d
    | box cs => exact ⟨fun _ => isM_there hm.symm hd, fun _ => trivial⟩
    | rows e ne l => exact ⟨fun _ => isM_there hm.symm hd, fun _ => trivial⟩
    | mrows e l => cases b0 with
     | mrows e' l' =>
      obtain ⟨e1, l1, g1, g2⟩ := (hi.ext.le p hp0).2 e' l' (getB_of_look hb hd)
      rw [getB_of_look hx0 hx0d] at g1
      cases g1
      show l ≠ [] ↔ l' ≠ []
      rw [← List.length_pos_iff, ← List.length_pos_iff, g2]
     | _ => simp [isM] at hm
   have e1 : oIdl ks0 V0 [p] = oId ks0 V0 p := by simp [oIdl]
   rw [e1, List.map_nil, List.append_nil]
   rcases huo with ⟨h3, x, rfl⟩ | ⟨h3, rfl⟩
   ·have h4 : oId ks0 V0 p = [V0.id p] := if_pos ⟨x0, hx0, key.2 h3⟩
    rw [h4]
    have := there_lt hr0 (getB_of_look hx0 hx0d) (key.2 h3)
    exact ⟨by show [V.id p] = _; rw [(hi.ext.agree p hp0).1], fun z hz => by have := List.mem_singleton.1 hz; omega⟩
   ·have h4 : oId ks0 V0 p = [] := if_neg fun ⟨b, g1, g2⟩ => by rw [hx0] at g1; cases g1; exact h3 (key.1 g2)
    rw [h4]
    exact ⟨rfl, fun z hz => by simp at hz⟩
  ·simp at h2
 | [], [j], ho => by
  have ho' : newOkB ks nw p j = true := ho
  unfold newOkB at ho'
  rw [Bool.and_eq_true] at ho'
  obtain ⟨h1, h2⟩ := ho'
  split at h1
  ·rename_i q hq
   have := Nat.eq_of_beq_eq_true h1
   subst this
   rw [hb] at h2
   have hth : b0.there := isM_there (by simpa using h2) hd
   obtain ⟨k1, k2, k3⟩ := hi.nw j p hq
   rcases huo with ⟨_, x, rfl⟩ | ⟨h3, _⟩
   ·refine ⟨?_, fun z hz => ?_⟩
    ·show [V.id p] = _; rw [k2]; simp [oIdl]
    ·have : z = h0.length + j := by simpa [oIdl] using hz
     omega
   ·exact absurd hth h3
  ·simp at h1
 | [], [], ho => by simp [updOk] at ho
 | [], _ :: _ :: _, ho => by simp [updOk] at ho
 | [_], _ :: _, ho => by simp [updOk] at ho
 | _ :: _ :: _, _, ho => by simp [updOk] at ho
theorem turn_ids (hr0 : Rel F ks0 V0 f0 h0) (hi : TInv F ks0 V0 h0.length w nw i ks V f H) {e : KE} {ids : List Nat} (hef : effOk ks0 ks O N nw i ids e = true) (hupd : ∀ p b, e.upd = some (p, b) → ∃ b0, look ks.bl p = some b0 ∧ b0 ≠ .dead ∧ ScB ks.nx b ∧ b0.like b) (hnew : ∀ b, e.new = some b → ScB ks.nx b ∧ b ≠ .dead) {B' : BK} {V' : Vl} {u : List (Nat × Blk)} (hreal : Real B' V' V ks (h0.length + i) e u) :
  u.map (·.1) = turnsOf h0.length (oIds ks0 V0 O) N i ∧ ∀ x ∈ turnsOf h0.length (oIds ks0 V0 O) N i, x < h0.length + (i + 1) := by
 unfold effOk at hef
 simp only [Bool.and_eq_true] at hef
 obtain ⟨⟨_, h2⟩, h3⟩ := hef
 obtain ⟨uo, un, rfl, huo, hun⟩ := hreal
 have hO : uo.map (·.1) = oIdl ks0 V0 (O.getD i []) ++ (N.getD i (false, [])).2.map (h0.length + ·) ∧ ∀ x ∈ oIdl ks0 V0 (O.getD i []) ++ (N.getD i (false, [])).2.map (h0.length + ·), x < h0.length + i := by
  cases hu : e.upd with
  | none =>
   rw [hu] at huo h2
   simp only [Bool.and_eq_true, List.isEmpty_iff] at h2
   rw [show uo = [] from huo, h2.1, h2.2]
   exact ⟨rfl, fun x hx => by simp [oIdl] at hx⟩
  | some z =>
   obtain ⟨p, b⟩ := z
   rw [hu] at huo h2
   simp only [Bool.and_eq_true] at h2
   obtain ⟨b0, g1, g2, _, _⟩ := hupd p b hu
   refine upd_ids hr0 hi g1 g2 ?_ _ _ h2.2
   rcases huo with ⟨x, k1, _, k2⟩ | ⟨k1, _, k2⟩
   ·exact .inl ⟨k2 b0 g1, x, k1⟩
   ·exact .inr ⟨k2 b0 g1, k1⟩
 have hN : un.map (·.1) = (if (N.getD i (false, [])).1 then [h0.length + i] else []) := by
  cases hn : e.new with
  | none =>
   rw [hn] at hun h3
   have h3' : (N.getD i (false, [])).1 = false := by simpa using h3
   rw [show un = [] from hun, h3']; rfl
  | some b =>
   rw [hn] at hun h3
   simp only [Bool.and_eq_true] at h3
   rw [h3.1.1]
   have hth : b.there := isM_there (by simpa using h3.2) (hnew b hn).2
   rcases hun with ⟨x, k1, _, _⟩ | ⟨_, k2⟩
   ·rw [k1]; rfl
   ·exact absurd hth k2
 unfold turnsOf
 rw [oIds_getD, List.map_append, hO.1, hN, List.append_assoc]
 refine ⟨rfl, fun x hx => ?_⟩
 rw [← List.append_assoc] at hx
 rcases List.mem_append.1 hx with hx | hx
 ·have := hO.2 x hx; omega
 ·split at hx
  ·have := List.mem_singleton.1 hx; omega
  ·simp at hx
theorem len_apply : ∀ (u : List (Nat × Blk)) (H : Heap), (∀ x ∈ u, x.1 < H.length) → (Ev.apply H u).length = H.length
 | [], H, h => rfl
 | x :: u, H, h => by
  have h1 := len_put_lt x.2 (h x (by simp))
  show (Ev.apply (putBlk H x.1 x.2) u).length = _
  rw [len_apply u _ (fun z hz => by rw [h1]; exact h z (by simp [hz])), h1]
theorem turnK_ok (hG : GOk G E D0) (hD : D0 ≤ n) {ops : Array Oper} {κ : KS → Option R} (hr0 : Rel F ks0 V0 f0 h0) : ∀ (l : List Oper) (i : Nat) (nw : List (Nat × Nat)) {ks : KS} {V : Vl} {f : Nat → D} {H : Heap}, i + l.length = w → turnK G F ops.toList Rl O N ks0 κ i nw l ks = some r → TInv F ks0 V0 h0.length w nw i ks V f H → holdsQ (Post F ks0 V0 κ r) (evW E (cpR E n) ops h0.length (turnsOf h0.length (oIds ks0 V0 O) N) (fun i => (Rl.getD i []).flatMap (turnsOf h0.length (oIds ks0 V0 O) N)) i l { t := tab F.nt f, h := H })
 | [], i, nw, ks, V, f, H, hl, hs, hi => ⟨ks, V, f, rfl, hi.rel, hs, hi.ext⟩
 | o :: l, i, nw, ks, V, f, H, hl, hs, hi => by
  unfold turnK at hs
  obtain ⟨bb, ks1, g1, g2, g3, g4, g5, g6⟩ := wantK_okT hi.rel hs
  obtain ⟨g, gg1, gg2⟩ := wantF_eq g2
  have hl' : i + 1 + l.length = w := by rw [List.length_cons] at hl; omega
  cases bb with
  | false =>
   simp only [cond_false] at g1
   cases hq : quietI O N i with
   | false => rw [hq] at g1; simp at g1
   | true =>
    rw [hq] at g1
    simp only [cond_true] at g1
    obtain ⟨k1, k2⟩ := skip_rel g4 g3
    have hi' : TInv F ks0 V0 h0.length w nw (i + 1) (skipE o.dst ks1) V (upO o.dst undefD f) H := ⟨k1, hi.ext.trans (g5.trans k2), hi.len, fun p bl hp ht => let ⟨b0, q1, q2⟩ := g6 p bl hp ht; hi.th p b0 q1 q2, fun j q hj => let ⟨q1, q2, q3⟩ := hi.nw j q hj; ⟨by omega, q2, Nat.lt_of_lt_of_le q3 g5.nx⟩, fun j hj => hi.free j (by omega)⟩
    have ih := turnK_ok hG hD hr0 l (i + 1) nw hl' g1 hi'
    have hU : turnsOf h0.length (oIds ks0 V0 O) N i = [] := by
     unfold quietI at hq
     simp only [Bool.and_eq_true, List.isEmpty_iff, Bool.not_eq_true'] at hq
     unfold turnsOf
     rw [oIds_getD, hq.1.1, hq.1.2, hq.2]; rfl
    cases ho : o.dst with
    | none => rw [ho] at ih; exact w_none gg1 ho (guard_off gg2) (by rw [hU]; rfl) (by rw [hU]; rfl) (apply_nil _) ih
    | some d =>
     rw [ho] at ih g3
     exact w_put gg1 ho (blt_lt (by simpa [dstOk] using g3)) (guard_off gg2) (by rw [hU]; rfl) (by rw [hU]; rfl) (apply_nil _) (by rw [up_eq]; exact ih)
  | true =>
   simp only [cond_true] at g1
   obtain ⟨op', ks2, k1, k2, k3, k4, k5, k6⟩ := pickK_okT (E := E) (n := n) g4 g1
   have hi2 : TInv F ks0 V0 h0.length w nw i ks2 V f H := ⟨k4, hi.ext.trans (g5.trans k5), hi.len, fun p bl hp ht => let ⟨b0, q1, q2⟩ := (g6.trans k6) p bl hp ht; hi.th p b0 q1 q2, fun j q hj => let ⟨q1, q2, q3⟩ := hi.nw j q hj; ⟨q1, q2, Nat.lt_of_lt_of_le q3 (g5.trans k5).nx⟩, hi.free⟩
   have hmr := mask_rel (ids := maskIds Rl O N nw i) (ms := (Rl.getD i []).flatMap (turnsOf h0.length (oIds ks0 V0 O) N)) hi2.rel fun p bl hp ht hm => hi2.mask hr0 hp ht hm
   obtain ⟨e, e1, e2⟩ := stepK_ok (M := ks2.nx + 2) hG hD hmr (Nat.le_refl _) (Nat.le_succ _) (by show ks2.nx < _; omega) (by show ks2.nx + 1 < _; omega) k1
   have e1' : cond (effOk ks0 ks2 O N nw i (maskIds Rl O N nw i) e) (turnK G F ops.toList Rl O N ks0 κ (i + 1) (nwE e i (ks2.nx + 1) nw) l (putE o.dst ks2.nx (ks2.nx + 1) e ks2)) none = some r := e1
   cases hef : effOk ks0 ks2 O N nw i (maskIds Rl O N nw i) e with
   | false => rw [hef] at e1'; simp at e1'
   | true =>
    rw [hef] at e1'
    simp only [cond_true] at e1'
    obtain ⟨bo, hrun⟩ := e2.run
    obtain ⟨v, u, s1, s2, s3⟩ := hrun (h0.length + i)
    have hnot : ∀ p b, e.upd = some (p, b) → p ∉ maskIds Rl O N nw i := fun p b hb hp => by
     obtain ⟨b0, q1, q2, _⟩ := e2.upd p b hb
     rw [maskK_look, if_pos hp] at q1
     cases q1
     exact q2 rfl
    have hupd : ∀ p b, e.upd = some (p, b) → ∃ b0, look ks2.bl p = some b0 ∧ b0 ≠ .dead ∧ ScB ks2.nx b ∧ b0.like b := fun p b hb => by
     obtain ⟨b0, q1, q2⟩ := e2.upd p b hb
     rw [maskK_look, if_neg (hnot p b hb)] at q1
     exact ⟨b0, q1, q2⟩
    have hfr := hef
    unfold effOk at hfr
    simp only [Bool.and_eq_true] at hfr
    obtain ⟨⟨f1, f2⟩, f3⟩ := hfr
    have hbe : ∀ p, p ∉ maskIds Rl O N nw i → Be F ks2 (ks2.nx + 1) e p = Be F (maskK (maskIds Rl O N nw i) ks2) (ks2.nx + 1) e p := fun p hp => (be_mask hp).symm
    have s2' : RD (Be F ks2 (ks2.nx + 1) e) (V.set (ks2.nx + 1) (h0.length + i) ks2.nx bo) (normD ks2.nx e.v) v := RD.free hbe (by rw [freeD_norm]; exact f1) s2
    have s3' : Real (Be F ks2 (ks2.nx + 1) e) (V.set (ks2.nx + 1) (h0.length + i) ks2.nx bo) V ks2 (h0.length + i) e u := by
     obtain ⟨uo, un, q1, q2, q3⟩ := s3
     refine ⟨uo, un, q1, ?_, ?_⟩
     ·cases hu : e.upd with
      | none => rw [hu] at q2; exact q2
      | some z =>
       obtain ⟨p, b⟩ := z
       have hp := hnot p b hu
       rw [hu] at q2 f2
       simp only [Bool.and_eq_true] at f2
       have hlk : look (maskK (maskIds Rl O N nw i) ks2).bl p = look ks2.bl p := by rw [maskK_look, if_neg hp]
       rcases q2 with ⟨x, z1, z2, z3⟩ | ⟨z1, z2, z3⟩
       ·exact .inl ⟨x, z1, BlkIs.free hbe f2.1 z2, fun b0 hb0 => z3 b0 (by rw [hlk]; exact hb0)⟩
       ·exact .inr ⟨z1, z2, fun b0 hb0 => z3 b0 (by rw [hlk]; exact hb0)⟩
     ·cases hn : e.new with
      | none => rw [hn] at q3; exact q3
      | some b =>
       rw [hn] at q3 f3
       simp only [Bool.and_eq_true] at f3
       rcases q3 with ⟨x, z1, z2, z3⟩ | ⟨z1, z2⟩
       ·exact .inl ⟨x, z1, BlkIs.free hbe f3.1.2 z2, z3⟩
       ·exact .inr ⟨z1, z2⟩
    obtain ⟨t1, t2⟩ := turn_ids hr0 hi2 hef hupd e2.new s3'
    have hnone : getBlk H (h0.length + i) = none := hi2.free i (Nat.le_refl _)
    have hh := hupd_apply u H (real_nodup k4 hupd s3' hnone)
    obtain ⟨w1, w2⟩ := putE_rel (M := ks2.nx + 2) k4 (Nat.le_refl _) (Nat.le_succ _) (by omega) (by omega) g3 hupd e2.new e2.sc s2' s3' (fun _ => hnone) hh
    have hult : ∀ x ∈ u, x.1 < h0.length + (i + 1) := fun x hx => t2 x.1 (t1 ▸ List.mem_map_of_mem hx)
    have hi' : TInv F ks0 V0 h0.length w (nwE e i (ks2.nx + 1) nw) (i + 1) (putE o.dst ks2.nx (ks2.nx + 1) e ks2) (V.set (ks2.nx + 1) (h0.length + i) ks2.nx bo) (upO o.dst v f) (Ev.apply H u) := by
     have hnwl : ∀ j q, look nw j = some q → look (nwE e i (ks2.nx + 1) nw) j = some q := fun j q hj => by
      unfold nwE
      split
      ·rw [look_cons, if_neg (by have := (hi2.nw j q hj).1; omega)]; exact hj
      ·exact hj
     refine ⟨w1, hi2.ext.trans w2, ?_, ?_, ?_, ?_⟩
     ·rw [len_apply u H (fun x hx => by have := hult x hx; rw [hi2.len]; omega), hi2.len]
     ·intro p bl hp ht
      have hold : ∀ b0, getB F ks2 p = some b0 → b0.there → (p < ks0.nx ∧ ∃ b0, getB F ks0 p = some b0 ∧ b0.there) ∨ ∃ j, look (nwE e i (ks2.nx + 1) nw) j = some p := fun b0 z1 z2 => by
       rcases hi2.th p b0 z1 z2 with h1 | ⟨j, hj⟩
       ·exact .inl h1
       ·exact .inr ⟨j, hnwl j p hj⟩
      have hp' : Be F ks2 (ks2.nx + 1) e p = some bl := hp
      rcases be_cases (fun b hb => (e2.new b hb).2) hp' with ⟨rfl, h1⟩ | h1 | ⟨h1, h2, h3⟩
      ·refine .inr ⟨i, ?_⟩
       unfold nwE
       rw [h1]
       simp only [look_cons, if_true]
      ·obtain ⟨b0, z1, z2, _, _⟩ := hupd p bl h1
       refine hold b0 (getB_of_look z1 z2) ?_
       obtain ⟨uo, un, q1, q2, q3⟩ := s3'
       rw [h1] at q2
       rcases q2 with ⟨x, _, _, z3⟩ | ⟨_, z3, _⟩
       ·exact z3 b0 z1
       ·exact absurd ht z3
      ·exact hold bl h3 ht
     ·intro j q hj
      have hcase : (j = i ∧ q = ks2.nx + 1) ∨ look nw j = some q := by
       unfold nwE at hj
       split at hj
       ·rw [look_cons] at hj
        split at hj
        ·rename_i hji; cases hj; exact .inl ⟨hji, rfl⟩
        ·exact .inr hj
       ·exact .inr hj
      rcases hcase with ⟨rfl, rfl⟩ | hj
      ·exact ⟨Nat.lt_succ_self _, Vl.set_id, by show _ < ks2.nx + 2; omega⟩
      ·obtain ⟨z1, z2, z3⟩ := hi2.nw j q hj
       exact ⟨by omega, by rw [(w2.agree q z3).1, z2], by show _ < ks2.nx + 2; omega⟩
     ·intro j hj
      rw [hh.out _ fun x hx => by have := hult x hx; omega]
      exact hi2.free j (by omega)
    have ih := turnK_ok hG hD hr0 l (i + 1) _ hl' e1' hi'
    have hst := (guard_on gg2).trans ((k2 (h0.length + i) _).trans s1)
    have hall : (turnsOf h0.length (oIds ks0 V0 O) N i).all (· < H.length) = true := List.all_eq_true.2 fun x hx => by
     have := t2 x hx
     have h3 := hi2.len
     exact decide_eq_true (by omega)
    cases ho : o.dst with
    | none => rw [ho] at ih; exact w_none gg1 ho hst t1 hall rfl ih
    | some d =>
     rw [ho] at ih g3
     exact w_put gg1 ho (blt_lt (by simpa [dstOk] using g3)) hst t1 hall rfl (by rw [up_eq]; exact ih)
theorem wpc_turnW (hG : GOk G E D0) (hD : D0 ≤ n) {id : Nat} {l : List Oper} {κ : Ex → KS → Option R} (hq : drawOkQ ⟨l⟩ = true) (hn : newOk ⟨l⟩ N = true) (hdj : djB O (openTo ⟨l⟩) O = true) (hold : oldsOk ks O = true) (hs : turnK G F l (openTo ⟨l⟩) O N ks (κ .normal) 0 [] l ks = some r) (hr : Rel F ks V f h) : WpC E y n (.region id ⟨l⟩ true) (fun e s => ∃ ks' V' f', s.t = tab F.nt f' ∧ Rel F ks' V' f' s.h ∧ κ e ks' = some r ∧ Ext F ks V ks' V') { t := tab F.nt f, h := h } := by
 refine wpc_turnL l.length rfl (oIds ks V O) N (openTo ⟨l⟩) hq hn rfl (dj_oIds hr hdj) (oIds_lt hr) fun h' h1 h2 => ?_
 refine turnK_ok (ops := ⟨l⟩) (w := l.length) hG hD hr l 0 [] (by omega) hs ⟨hr.heap h2, Ext.refl _ _ _, h1, fun p bl hp ht => .inl ⟨(hr.bl p bl hp).1, bl, hp, ht⟩, fun j q hj => by simp [look] at hj, fun j hj => ?_⟩
 rw [h2]
 unfold getBlk
 rw [List.getElem?_eq_none (by omega)]
end
end
end K
end Ev
end Go.Proofs.Ytlkcneneagifoaa
end
section
namespace Go.Proofs.Ytlkcneneagifoaa
namespace Ev
namespace K
open Go Go.RowKit
set_option linter.unusedVariables false
set_option linter.unusedSimpArgs false
section
variable {E : Env} {y : Nat → YldP} {n : Nat} {G : KG} {D0 : Nat}
section loop
variable {F : KF} {ks : KS} {V : Vl} {f : Nat → D} {h : Heap} {a : LoopA} {cs : List KC} {x0 : prodT a.head.sh} {ks2 : KS} {V1 V2 : Vl} {f2 : Nat → D} {x1 : prodT a.head.sh}
theorem boxIds_get {F : KF} {ks : KS} : ∀ {bs : List (Nat × List Sh)} {p : Nat}, p ∈ boxIds F ks bs → ∃ v ∈ bs, ptrAt F ks v.1 = some p
 | [], p, h => by simp [boxIds] at h
 | v :: r, p, h => by
  unfold boxIds at h
  split at h
  ·rename_i q hq
   rcases List.mem_cons.1 h with rfl | h
   ·exact ⟨v, by simp, hq⟩
   ·obtain ⟨w, h1, h2⟩ := boxIds_get h; exact ⟨w, by simp [h1], h2⟩
  ·obtain ⟨w, h1, h2⟩ := boxIds_get h; exact ⟨w, by simp [h1], h2⟩
theorem readX_ok (hr : Rel F ks V f h) (hok : okEnd F ks = true) (hcs : cellsP F ks a.head = some cs) (hrd : RdCs ks a.head.sh cs x0) (ha1 : Agree ks.nx V V1) (hl1 : LeB ks.nx (getB F ks) (getB (frameL F ks a cs) (stateP F ks a.head x1))) {s : St} (hst : s.t = tab F.nt f2) (hr2 : Rel (frameL F ks a cs) ks2 V2 f2 s.h) (hok2 : okEnd (frameL F ks a cs) ks2 = true) (hext : Ext (frameL F ks a cs) (stateP F ks a.head x1) V1 ks2 V2) {e : Ex} : ∀ {l : List (Ex × Pt)} {R : Type} {r : R} {κ : XT l → Option R}, (∀ x ∈ l, bsOk F ks (frameL F ks a cs) x.2 = true) → readX (frameL F ks a cs) ks2 e l κ = some r → ∃ v, κ v = some r ∧ JX F ks V a.keep (deadIds F ks a cs) l v e s
 | [], R, r, κ, hb, hs => by simp [readX] at hs
 | x :: l, R, r, κ, hb, hs => by
  unfold readX at hs
  cases hx : exEq e x.1 with
  | false =>
   rw [hx] at hs
   obtain ⟨v, h1, h2⟩ := readX_ok hr hok hcs hrd ha1 hl1 hst hr2 hok2 hext (fun z hz => hb z (by simp [hz])) hs
   exact ⟨.inr v, h1, h2⟩
  | true =>
   rw [hx] at hs
   obtain ⟨cs2, v, g1, g2, g3, g4⟩ := readP_some hr2 hs
   have hbs := hb x (by simp)
   have hkb : ∀ p, lookF (afterS F ks a.keep (deadIds F ks a cs) x.2 v).bl F.bl p = look ((stateP F ks x.2 v).bl ++ ((deadIds F ks a cs).map (fun p => (p, KB.dead)) ++ (ks.bl ++ F.bl))) p := fun p => by
    rw [← look_append]
    show look ((stateP F ks x.2 v).bl ++ ((deadIds F ks a cs).map (fun p => (p, KB.dead)) ++ ks.bl) ++ F.bl) p = _
    rw [List.append_assoc, List.append_assoc]
   obtain ⟨V3, hr3, ha3, hl3⟩ := loop_to (Fb := F) (kb := afterS F ks a.keep (deadIds F ks a cs) x.2 v) hr hok hcs hr2 hok2 hext hbs g1 g2 g3 rfl rfl (fun i d hd => by
    have hd' : lookF (slotsP x.2.vs ((writeCs x.2.sh v ks.nx).map (·.1)) ++ keepS F ks a.keep) F.sl i = some d := hd
    rw [← look_append, List.append_assoc, look_append] at hd'
    unfold lookF at hd'
    cases hl : look (slotsP x.2.vs ((writeCs x.2.sh v ks.nx).map (·.1))) i with
    | some d' => rw [hl] at hd'; cases hd'; exact .inl rfl
    | none => rw [hl] at hd'; exact .inr hd') hkb
   have hnx1 : ks.nx ≤ (stateP F ks a.head x1).nx := by show ks.nx ≤ ks.nx + _; omega
   refine ⟨.inl v, g4, exEq_eq hx, V3, f2, hst, hr3, ⟨by show ks.nx ≤ ks.nx + _; omega, ?_, ?_, ?_⟩⟩
   ·exact (ha1.trans hext.agree hnx1).trans ha3 (Nat.le_refl _)
   ·exact (hl1.trans hext.le hnx1).trans hl3 (Nat.le_refl _)
   ·intro p hp hl
    have h2 := dom_in hcs hrd hext hp hl
    show look ((stateP F ks x.2 v).bl ++ ((deadIds F ks a cs).map (fun p => (p, KB.dead)) ++ ks.bl)) p = none
    obtain ⟨ca, cb, cw, _, hcb2, _, _⟩ := cellsP_some g1
    have e1 : look (stateP F ks x.2 v).bl p = none := by
     refine stateP_none (fun w hw he => ?_) (fun w hw he => ?_) hp
     ·obtain ⟨q, c, j1, j2⟩ := cellsB_ptr hcb2 w hw
      rw [frame_ptr hok hok2 hbs w hw, he] at j1
      cases j1
      rw [h2] at j2; simp at j2
     ·obtain ⟨q, j1, j2⟩ := frame_row hr hok2 hcs hext hbs w hw
      rw [he] at j2
      cases j2
      obtain ⟨q, k1, k2⟩ := cellsW_own g1 hw
      rw [j1] at k1
      cases k1
      obtain ⟨b, k3, _⟩ := rdCs_own g3 k2
      rw [h2] at k3; simp at k3
    rw [look_append]
    unfold lookF
    rw [e1]
    simp only [look_append]
    unfold lookF
    rcases look_dead (l := deadIds F ks a cs) (p := p) with ⟨h1, h2⟩ | ⟨h1, h2⟩
    ·rw [h1]; exact hl
    ·exfalso
     rcases List.mem_append.1 h2 with h2 | h2
     ·obtain ⟨b', k1, _⟩ := rdCs_own hrd h2
      rw [hl] at k1; simp at k1
     ·obtain ⟨w, hw, hpw⟩ := boxIds_get h2
      obtain ⟨ca, cb, cw, _, hcb, _, _⟩ := cellsP_some hcs
      obtain ⟨p'', c'', j1, j2⟩ := cellsB_ptr hcb w hw
      rw [hpw] at j1
      cases j1
      rw [hl] at j2; simp at j2
end loop
theorem codeK_ok (hG : GOk G E D0) (hD : D0 ≤ n) {A : AnnF} {call : CallK} (hcall : CallOk E n call) : ∀ (c : Code) (R : Type) (F : KF) (ks : KS) (κ : Ex → KS → Option R) (r : R) (V : Vl) (f : Nat → D) (h : Heap), codeK G A call c R F ks κ = some r → Rel F ks V f h → WpC E y n c (PostC F ks V κ r) { t := tab F.nt f, h := h } := by
 intro c
 induction c with
 | skip => intro R F ks κ r V f h hs hr; exact wpc_skip ⟨ks, V, f, rfl, hr, hs, Ext.refl _ _ _⟩
 | region id ops draw =>
  intro R F ks κ r V f h hs hr
  obtain ⟨l⟩ := ops
  cases draw with
  | false =>
   have hs' : opsK G call F (Array.toList ⟨l⟩) (κ .normal) l ks = some r := hs
   exact wpc_opsW (opsK_ok (ops := ⟨l⟩) hG hD hcall l hs' hr)
  | true =>
   have hs' : cond (drawOkQ ⟨l⟩) (match look A.tn id with
    | none => stillK G F l (κ .normal) l ks
    | some T => match brIdss F ks T.old with
     | some O => cond (newOk ⟨l⟩ T.new && djB O (openTo ⟨l⟩) O && oldsOk ks O) (turnK G F l (openTo ⟨l⟩) O T.new ks (κ .normal) 0 [] l ks) none
     | none => none) (match cutAt ⟨l⟩ with
    | some m => cond (drawOkP ⟨l⟩) (stillK G F l (opsK G call F l (κ .normal) (l.drop m)) (l.take m) ks) none
    | none => none) = some r := hs
   cases hq : drawOkQ ⟨l⟩ with
   | true =>
    rw [hq] at hs'
    simp only [cond_true] at hs'
    split at hs'
    ·exact wpc_stillL l.length rfl hq fun h' h1 h2 => stillK_ok (ops := ⟨l⟩) (κ := κ .normal) hG hD l 0 hs' (hr.heap h2)
    ·split at hs'
     ·rename_i T hT _ O hO
      cases hc : (newOk ⟨l⟩ T.new && djB O (openTo ⟨l⟩) O && oldsOk ks O) with
      | false => rw [hc] at hs'; simp at hs'
      | true =>
       rw [hc] at hs'
       simp only [Bool.and_eq_true] at hc
       exact wpc_turnW hG hD hq hc.1.1 hc.1.2 hc.2 hs' hr
     ·simp at hs'
   | false =>
    rw [hq] at hs'
    simp only [cond_false] at hs'
    split at hs'
    ·rename_i m hc
     cases hp : drawOkP ⟨l⟩ with
     | false => rw [hp] at hs'; simp at hs'
     | true =>
      rw [hp] at hs'
      have hr' : Rel F ks V f (h ++ List.replicate (Array.mk l).size .no) := hr.heap fun k => getBlk_pad _ _ _
      refine wpc_cutK m hc hp (holdsQ_mono (stillK_ok (ops := ⟨l⟩) (b := h.length) (κ := opsK G call F l (κ .normal) (l.drop m)) hG hD (l.take m) 0 hs' hr') fun t ht => ?_)
      obtain ⟨ks', V', f', h1, h2, h3, h4⟩ := ht
      simp only at h1 h2
      subst h1
      exact opsW_mono (opsK_ok (ops := ⟨l⟩) hG hD hcall (l.drop m) h3 h2) fun s hs => Post.ext h4 hs
    ·simp at hs'
 | seq a b iha ihb =>
  intro R F ks κ r V f h hs hr
  have hs' : (match A.lp.find? fun z => z.join && (some z.key == firstReg a && Nat.beq z.sz (sizeC a)) with
   | none => codeK G A call a R F ks fun e ks => match e with
    | .normal => codeK G A call b R F ks κ
    | e => κ e ks
   | some z => match cellsP F ks z.head, okEnd F ks with
    | some cs, true => cond (bsOk F ks (frameL F ks z cs) z.head && z.exs.all fun x => bsOk F ks (frameL F ks z cs) x.2) (readP F ks z.head fun x0 =>
     (codeK G A call a (XT z.exs) (frameL F ks z cs) (stateP F ks z.head x0) fun e ks2 => cond (okEnd (frameL F ks z cs) ks2) (readX (frameL F ks z cs) ks2 e z.exs some) none).bind fun y => afterX F ks z.keep (deadIds F ks z cs) z.exs y fun e ks => match e with
      | .normal => codeK G A call b R F ks κ
      | e => κ e ks) none
    | _, _ => none) = some r := hs
  have key : ∀ e s, PostC F ks V (fun e ks => match e with
    | .normal => codeK G A call b R F ks κ
    | e => κ e ks) r e s → thenQ (WpC E y n b (PostC F ks V κ r)) (PostC F ks V κ r) e s := by
   intro e s hp
   obtain ⟨ks', V', f', h1, h2, h3, h4⟩ := hp
   obtain ⟨t, hh⟩ := s
   simp only at h1 h2
   subst h1
   cases e with
   | normal => exact (ihb R F ks' κ r V' f' hh h3 h2).mono fun e s hp => hp.ext h4
   | ret => exact ⟨ks', V', f', rfl, h2, h3, h4⟩
   | exit id => exact ⟨ks', V', f', rfl, h2, h3, h4⟩
  split at hs'
  ·exact wpc_seq ((iha R F ks _ r V f h hs' hr).mono key)
  ·rename_i z hz
   split at hs'
   ·rename_i cs hcs hok
    cases hbs : (bsOk F ks (frameL F ks z cs) z.head && z.exs.all fun x => bsOk F ks (frameL F ks z cs) x.2) with
    | false => rw [hbs] at hs'; simp at hs'
    | true =>
     rw [hbs] at hs'
     rw [Bool.and_eq_true] at hbs
     obtain ⟨hbs0, hbsx⟩ := hbs
     obtain ⟨cs', x0, g1, g2, g3, g4⟩ := readP_some hr hs'
     rw [hcs] at g1
     cases g1
     rw [Option.bind_eq_some_iff] at g4
     obtain ⟨out, g4, g5⟩ := g4
     obtain ⟨V1, hr1, ha1, hl1⟩ := loop_in hr hok hcs g2 g3
     refine wpc_seq ((iha _ (frameL F ks z cs) (stateP F ks z.head x0) _ out V1 f h g4 hr1).mono fun e s hp => key e s ?_)
     obtain ⟨ks2, V2, f2, t1, r2, k1, ext⟩ := hp
     dsimp only at k1
     cases hok2 : okEnd (frameL F ks z cs) ks2 with
     | false => rw [hok2] at k1; simp at k1
     | true =>
      rw [hok2] at k1
      obtain ⟨v, j1, j2⟩ := readX_ok hr hok hcs g3 ha1 hl1 t1 r2 hok2 ext (fun w hw => List.all_eq_true.1 hbsx w hw) k1
      cases j1
      exact afterX_ok g5 j2
   ·simp at hs'
 | cond c a b iha ihb =>
  intro R F ks κ r V f h hs hr
  have hs' : (match kO F ks c with
   | some (.one c) => kIf c ks fun t ks => cond t (codeK G A call a R F ks κ) (codeK G A call b R F ks κ)
   | _ => none) = some r := hs
  split at hs'
  ·rename_i c0 hc
   obtain ⟨d, d1, d2, c', rfl, d3⟩ := kO_ov hr hc
   obtain ⟨t, ks', g1, rfl, g3, g4⟩ := kIf_ok hr d3 hs'
   have e1 : opnd (tab F.nt f) c = some (.one (bC t)) := (ov_eq F.nt f c).trans d1
   refine wpc_cond e1 rfl ?_
   cases t with
   | true => exact (iha R F ks' κ r V f h g1 g3).mono fun e s hp => hp.ext g4
   | false => exact (ihb R F ks' κ r V f h g1 g3).mono fun e s hp => hp.ext g4
  ·simp at hs'
 | block id b ih =>
  intro R F ks κ r V f h hs hr
  have hs' : codeK G A call b R F ks (fun e ks => κ (cond (exEq e (.exit id)) .normal e) ks) = some r := hs
  refine wpc_block ((ih R F ks _ r V f h hs' hr).mono fun e s hp => ?_)
  obtain ⟨ks', V', f', h1, h2, h3, h4⟩ := hp
  refine ⟨ks', V', f', h1, h2, ?_, h4⟩
  rw [← h3]
  have : (if e = .exit id then Ex.normal else e) = cond (exEq e (.exit id)) .normal e := by
   cases hx : exEq e (.exit id) with
   | true => rw [if_pos (exEq_eq hx)]; rfl
   | false => rw [if_neg (fun he => by subst he; simp [exEq] at hx)]; rfl
  rw [this]
 | loop b ih =>
  intro R F ks κ r V f h hs hr
  have hs' : (match A.lp.find? fun a => !a.join && some a.key == firstReg b with
   | none => none
   | some a => match cellsP F ks a.head, okEnd F ks with
    | some cs, true => cond (bsOk F ks (frameL F ks a cs) a.head && a.exs.all fun x => bsOk F ks (frameL F ks a cs) x.2 && !exEq x.1 .normal) (readP F ks a.head fun x0 =>
     (loopO (fun x => codeK G A call b (prodT a.head.sh ⊕ XT a.exs) (frameL F ks a cs) (stateP F ks a.head x) fun e ks2 => cond (okEnd (frameL F ks a cs) ks2) (match e with
      | .normal => readP (frameL F ks a cs) ks2 a.head fun y => some (.inl y)
      | e => readX (frameL F ks a cs) ks2 e a.exs fun y => some (.inr y)) none) x0).bind fun y => afterX F ks a.keep (deadIds F ks a cs) a.exs y κ) none
    | _, _ => none) = some r := hs
  split at hs'
  ·simp at hs'
  ·rename_i a ha
   split at hs'
   ·rename_i cs hcs hok
    cases hbs : (bsOk F ks (frameL F ks a cs) a.head && a.exs.all fun x => bsOk F ks (frameL F ks a cs) x.2 && !exEq x.1 .normal) with
    | false => rw [hbs] at hs'; simp at hs'
    | true =>
     rw [hbs] at hs'
     rw [Bool.and_eq_true] at hbs
     obtain ⟨hbs0, hbsx⟩ := hbs
     obtain ⟨cs', x0, g1, g2, g3, g4⟩ := readP_some hr hs'
     rw [hcs] at g1
     cases g1
     rw [Option.bind_eq_some_iff] at g4
     obtain ⟨out, g4, g5⟩ := g4
     obtain ⟨V1, hr1, ha1, hl1⟩ := loop_in hr hok hcs g2 g3
     refine WpC.mono (wpc_loopO _ (fun x s => ∃ V1 f1, s.t = tab F.nt f1 ∧ Rel (frameL F ks a cs) (stateP F ks a.head x) V1 f1 s.h ∧ Agree ks.nx V V1 ∧ LeB ks.nx (getB F ks) (getB (frameL F ks a cs) (stateP F ks a.head x))) (fun o e s => JX F ks V a.keep (deadIds F ks a cs) a.exs o e s) (fun r s => JX_n (fun z hz => by have := List.all_eq_true.1 hbsx z hz; rw [Bool.and_eq_true] at this; simpa using this.2) r s) ?_ x0 out _ g4 ⟨V1, f, rfl, hr1, ha1, hl1⟩) fun e s hj => afterX_ok g5 hj
     intro x o s hb hI
     obtain ⟨W1, f1, e1, r1, a1, l1⟩ := hI
     obtain ⟨t, hh⟩ := s
     simp only at e1 r1
     subst e1
     refine (ih _ (frameL F ks a cs) (stateP F ks a.head x) _ o W1 f1 hh hb r1).mono fun e s hp => ?_
     obtain ⟨ks2, V2, f2, t1, r2, k1, ext⟩ := hp
     dsimp only at k1
     cases hok2 : okEnd (frameL F ks a cs) ks2 with
     | false => rw [hok2] at k1; simp at k1
     | true =>
      rw [hok2] at k1
      simp only [cond_true] at k1
      have hx : e ≠ .normal → readX (frameL F ks a cs) ks2 e a.exs (fun y => some (.inr y)) = some o → ∃ v, o = .inr v ∧ JX F ks V a.keep (deadIds F ks a cs) a.exs v e s := by
       intro hne hk
       obtain ⟨v, j1, j2⟩ := readX_ok hr hok hcs g3 a1 l1 t1 r2 hok2 ext (fun z hz => by have := List.all_eq_true.1 hbsx z hz; rw [Bool.and_eq_true] at this; exact this.1) hk
       exact ⟨v, (Option.some.inj j1).symm, j2⟩
      cases e with
      | normal =>
       obtain ⟨cs2, v, w1, w2, w3, w4⟩ := readP_some r2 k1
       cases w4
       obtain ⟨V3, hr3, ha3, hl3⟩ := loop_to (Fb := frameL F ks a cs) (kb := stateP F ks a.head v) hr hok hcs r2 hok2 ext hbs0 w1 w2 w3 rfl rfl (fun i d hd => by
        have hd' : lookF (slotsP a.head.vs ((writeCs a.head.sh v ks.nx).map (·.1))) (frameL F ks a cs).sl i = some d := hd
        unfold lookF at hd'
        cases hl : look (slotsP a.head.vs ((writeCs a.head.sh v ks.nx).map (·.1))) i with
        | some d' => rw [hl] at hd'; cases hd'; exact .inl rfl
        | none => rw [hl] at hd'; exact .inr hd') (fun p => (look_append _ _ p).symm)
       exact ⟨rfl, V3, f2, t1, hr3, (a1.trans ext.agree (by show ks.nx ≤ ks.nx + _; omega)).trans ha3 (Nat.le_refl _), (l1.trans ext.le (by show ks.nx ≤ ks.nx + _; omega)).trans hl3 (Nat.le_refl _)⟩
      | ret => obtain ⟨v, rfl, j⟩ := hx (by simp) k1; exact j
      | exit id => obtain ⟨v, rfl, j⟩ := hx (by simp) k1; exact j
   ·simp at hs'
 | exit id => intro R F ks κ r V f h hs hr; exact wpc_exit ⟨ks, V, f, rfl, hr, hs, Ext.refl _ _ _⟩
 | ret => intro R F ks κ r V f h hs hr; exact wpc_ret ⟨ks, V, f, rfl, hr, hs, Ext.refl _ _ _⟩
 | label l => intro R F ks κ r V f h hs hr; exact wpc_label ⟨ks, V, f, rfl, hr, hs, Ext.refl _ _ _⟩
 | scope b ih =>
  intro R F ks κ r V f h hs hr
  exact wpc_scope (ih R F ks κ r V f h hs hr)
 | _ => intro R F ks κ r V f h hs hr; simp [codeK] at hs
end
end K
end Ev
end Go.Proofs.Ytlkcneneagifoaa
end
