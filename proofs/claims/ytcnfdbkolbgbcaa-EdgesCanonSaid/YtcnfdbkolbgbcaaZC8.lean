/- Texts of a claim, joined. -/
import Derived.Test.YtcnfdbkolbgbcaaZC7
import Derived.Test.YtcnfdbkolbgbcaaProg
set_option linter.unusedVariables false
set_option linter.unusedSimpArgs false
section
namespace Go.Proofs.Ytcnfdbkolbgbcaa
namespace Ev
namespace K
open Go Go.RowKit
set_option linter.unusedVariables false
set_option linter.unusedSimpArgs false
theorem any_beq {ids : List Nat} {p : Nat} (h : (!(ids.any (Nat.beq p))) = true) : p ∉ ids := by
 intro hp
 have : ids.any (Nat.beq p) = true := List.any_eq_true.2 ⟨p, hp, Nat.beq_refl p⟩
 rw [this] at h; simp at h
theorem look_blE {e : KE} {nid p : Nat} {bl bl' : List (Nat × KB)} (h : look bl p = look bl' p) : look (blE e nid bl) p = look (blE e nid bl') p := by
 have h1 : look (blU e bl) p = look (blU e bl') p := by
  unfold blU
  cases e.upd with
  | none => exact h
  | some x => show look ((x.1, x.2) :: bl) p = look ((x.1, x.2) :: bl') p; rw [look_cons, look_cons, h]
 unfold blE
 cases e.new with
 | none => exact h1
 | some b => simp only [look_cons, h1]
section free
variable {B B' : BK} {V : Vl} {ids : List Nat} (hb : ∀ p, p ∉ ids → B' p = B p)
include hb
theorem RC.free {c : KC} {x : C} (hf : freeC ids c = true) (h : RC B V c x) : RC B' V c x := by
 cases c with
 | o e p => intro e' ne l hl; rw [hb p (any_beq (ids := ids) (p := p) hf)] at hl; exact h e' ne l hl
 | m e p => intro e' l hl; rw [hb p (any_beq (ids := ids) (p := p) hf)] at hl; exact h e' l hl
 | _ => exact h
theorem RCs.free : ∀ {l : List KC} {xs : List C}, l.all (freeC ids) = true → RCs B V l xs → RCs B' V l xs
 | [], xs, hf, h => h
 | c :: l, xs, hf, ⟨x, s, e, h1, h2⟩ => by
  rw [List.all_cons, Bool.and_eq_true] at hf
  exact ⟨x, s, e, RC.free hb hf.1 h1, RCs.free hf.2 h2⟩
theorem RD1.free {k : KD} {d : D} (hf : freeD ids k = true) (h : RD1 B V k d) : RD1 B' V k d := by
 cases k with
 | one c => obtain ⟨c', h1, h2⟩ := h; exact ⟨c', h1, RC.free hb hf h2⟩
 | agg cs => obtain ⟨c', h1, h2⟩ := h; exact ⟨c', h1, RCs.free hb hf h2⟩
 | tup ts => exact h
omit hb in
theorem mkD_free {x : Bool × List KC} (hf : x.2.all (freeC ids) = true) : freeD ids (mkD x) = true := by
 obtain ⟨b, cs⟩ := x
 cases b with
 | true => exact hf
 | false => match cs, hf with
  | [], hf => exact hf
  | [c], hf => simpa [mkD, freeD] using hf
  | c :: d :: r, hf => exact hf
theorem RTs.free : ∀ {l : List (Bool × List KC)} {xs : List D}, (l.all fun x => x.2.all (freeC ids)) = true → RTs B V l xs → RTs B' V l xs
 | [], xs, hf, h => h
 | c :: l, xs, hf, ⟨x, s, e, h1, h2⟩ => by
  rw [List.all_cons, Bool.and_eq_true] at hf
  exact ⟨x, s, e, RD1.free hb (mkD_free hf.1) h1, RTs.free hf.2 h2⟩
theorem RD.free {k : KD} {d : D} (hf : freeD ids k = true) (h : RD B V k d) : RD B' V k d := by
 cases k with
 | one c => exact RD1.free (k := .one c) hb hf h
 | agg cs => exact RD1.free (k := .agg cs) hb hf h
 | tup ts => obtain ⟨ds, h1, h2⟩ := h; exact ⟨ds, h1, RTs.free hb hf h2⟩
theorem BlkIs.free {b : KB} {x : Blk} (hf : freeB ids b = true) (h : BlkIs B V x b) : BlkIs B' V x b := by
 cases b with
 | box cs => obtain ⟨sz, cs', g1, g2⟩ := h; exact ⟨sz, cs', g1, RCs.free hb hf g2⟩
 | rows e ne l => exact h
 | mrows e l => exact h
 | dead => exact h
end free
theorem freeD_norm {ids : List Nat} {tag : Nat} {d : KD} : freeD ids (normD tag d) = freeD ids d := by
 unfold normD
 split <;> rfl
section
variable {E : Env} {y : Nat → YldP} {n : Nat} {F : KF} {ks : KS} {V : Vl} {f : Nat → D} {h : Heap} {M tag nid : Nat} {op : Op} {G : KG} {D0 : Nat} {R : Type} {r : R}
theorem maskK_look {ids : List Nat} {p : Nat} : look (maskK ids ks).bl p = if p ∈ ids then some .dead else look ks.bl p := by
 show look (ids.map (fun p => (p, KB.dead)) ++ ks.bl) p = _
 rw [look_append]
 unfold lookF
 rcases look_dead (l := ids) (p := p) with ⟨h1, h2⟩ | ⟨h1, h2⟩
 ·rw [h1, if_neg h2]
 ·rw [h1, if_pos h2]
theorem maskK_getB {ids : List Nat} {p : Nat} : getB F (maskK ids ks) p = if p ∈ ids then none else getB F ks p := by
 unfold getB lookF
 rw [maskK_look]
 by_cases hp : p ∈ ids
 ·rw [if_pos hp, if_pos hp]
 ·rw [if_neg hp, if_neg hp]
theorem be_mask {ids : List Nat} {e : KE} {p : Nat} (hp : p ∉ ids) : Be F (maskK ids ks) nid e p = Be F ks nid e p := by
 have := look_blE (e := e) (nid := nid) (show look (maskK ids ks).bl p = look ks.bl p by rw [maskK_look, if_neg hp])
 unfold Be getB lookF
 simp only [this]
theorem mask_rel {ids ms : List Nat} (hr : Rel F ks V f h) (hm : ∀ p b, getB F ks p = some b → b.there → V.id p ∈ ms → p ∈ ids) : Rel F (maskK ids ks) V f (mask h ms) := by
 have hle : LeB ks.nx (getB F ks) (getB F (maskK ids ks)) := fun p hp => by
  rw [maskK_getB]
  split
  ·exact ⟨fun e ne l h => by simp at h, fun e l h => by simp at h⟩
  ·exact ⟨fun e ne l h => ⟨e, ne, l, h, rfl⟩, fun e l h => ⟨e, l, h, rfl⟩⟩
 refine ⟨fun i d hd => ?_, fun p b hb => ?_, fun p q b b' hp hq => ?_⟩
 ·obtain ⟨g1, g2, g3⟩ := hr.sl i d hd
  exact ⟨g1, g2, g3.mono g2 hle (Agree.refl _ _)⟩
 ·rw [maskK_getB] at hb
  split at hb
  ·simp at hb
  ·rename_i hp
   obtain ⟨g1, g2, g3⟩ := hr.bl p b hb
   refine ⟨g1, g2, ?_⟩
   have g4 := g3.mono g2 hle (Agree.refl _ _)
   by_cases ht : b.there
   ·exact g4.heap (by rw [getBlk_mask, if_neg fun hh => hp (hm p b hb ht hh)])
   ·cases b with
    | mrows e l => exact fun hl => absurd hl ht
    | dead => trivial
    | box cs => exact absurd trivial ht
    | rows e ne l => exact absurd trivial ht
 ·rw [maskK_getB] at hp hq
  split at hp
  ·simp at hp
  ·split at hq
   ·simp at hq
   ·exact hr.inj p q b b' hp hq
open Classical in
noncomputable def oId (ks : KS) (V : Vl) (p : Nat) : List Nat := if ∃ b, look ks.bl p = some b ∧ b.there then [V.id p] else []
noncomputable def oIdl (ks : KS) (V : Vl) (l : List Nat) : List Nat := l.flatMap (oId ks V)
noncomputable def oIds (ks : KS) (V : Vl) (O : List (List Nat)) : List (List Nat) := O.map (oIdl ks V)
theorem oIds_getD {O : List (List Nat)} {j : Nat} : (oIds ks V O).getD j [] = oIdl ks V (O.getD j []) := by
 unfold oIds
 rw [List.getD_eq_getElem?_getD, List.getElem?_map, List.getD_eq_getElem?_getD]
 cases O[j]? <;> rfl
theorem oIdl_mem {l : List Nat} {x : Nat} (h : x ∈ oIdl ks V l) : ∃ p ∈ l, ∃ b, look ks.bl p = some b ∧ b.there ∧ x = V.id p := by
 unfold oIdl at h
 obtain ⟨p, hp, hx⟩ := List.mem_flatMap.1 h
 unfold oId at hx
 split at hx
 ·rename_i hh; obtain ⟨b, h1, h2⟩ := hh; exact ⟨p, hp, b, h1, h2, by simpa using hx⟩
 ·simp at hx
theorem there_ne {b : KB} (h : b.there) : b ≠ .dead := by rintro rfl; exact h
theorem there_lt (hr : Rel F ks V f h) {p : Nat} {b : KB} (hp : getB F ks p = some b) (ht : b.there) : V.id p < h.length :=
 let ⟨_, hz⟩ := there_some (hr.bl p b hp).2.2 ht; getBlk_lt hz
theorem dj_oIds (hr : Rel F ks V f h) : ∀ {os rs O : List (List Nat)}, djB os rs O = true → DJ (oIds ks V os) rs (oIds ks V O)
 | [], rs, O, _ => by cases rs <;> trivial
 | o :: os, [], O, _ => trivial
 | o :: os, r :: rs, O, hd => by
  have hd' : ((r.all fun j => disjB o (O.getD j [])) && djB os rs O) = true := hd
  rw [Bool.and_eq_true] at hd'
  refine ⟨fun j hj x hx => ?_, dj_oIds hr hd'.2⟩
  rw [oIds_getD]
  intro hx2
  obtain ⟨p, p1, b, p2, p3, rfl⟩ := oIdl_mem hx
  obtain ⟨q, q1, b', q2, q3, q4⟩ := oIdl_mem hx2
  have := hr.inj p q b b' (getB_of_look p2 (there_ne p3)) (getB_of_look q2 (there_ne q3)) p3 q3 q4
  subst this
  have h1 := List.all_eq_true.1 hd'.1 j hj
  unfold disjB at h1
  exact any_beq (List.all_eq_true.1 h1 p p1) q1
theorem oIds_lt (hr : Rel F ks V f h) {O : List (List Nat)} : ∀ l ∈ oIds ks V O, ∀ k ∈ l, k < h.length := by
 intro l hl k hk
 obtain ⟨o, h1, rfl⟩ := List.mem_map.1 hl
 obtain ⟨p, _, b, p2, p3, rfl⟩ := oIdl_mem hk
 exact there_lt hr (getB_of_look p2 (there_ne p3)) p3
section
variable {Rl O : List (List Nat)} {N : List (Bool × List Nat)} {nw : List (Nat × Nat)} {i j p q : Nat}
theorem maskIds_old (hj : j ∈ Rl.getD i []) (hp : p ∈ O.getD j []) : p ∈ maskIds Rl O N nw i := List.mem_flatMap.2 ⟨j, hj, List.mem_append.2 (.inl hp)⟩
theorem maskIds_upd (hj : j ∈ Rl.getD i []) (hq : q ∈ (N.getD j (false, [])).2) (hp : look nw q = some p) : p ∈ maskIds Rl O N nw i := List.mem_flatMap.2 ⟨j, hj, List.mem_append.2 (.inr (List.mem_append.2 (.inl (List.mem_flatMap.2 ⟨q, hq, by rw [hp]; exact List.mem_singleton.2 rfl⟩))))⟩
theorem maskIds_new (hj : j ∈ Rl.getD i []) (hn : (N.getD j (false, [])).1 = true) (hp : look nw j = some p) : p ∈ maskIds Rl O N nw i := List.mem_flatMap.2 ⟨j, hj, List.mem_append.2 (.inr (List.mem_append.2 (.inr (by rw [hn, hp]; exact List.mem_singleton.2 rfl))))⟩
end
structure TInv (F : KF) (ks0 : KS) (V0 : Vl) (b w : Nat) (nw : List (Nat × Nat)) (i : Nat) (ks : KS) (V : Vl) (f : Nat → D) (H : Heap) : Prop where
 rel : Rel F ks V f H
 ext : Ext F ks0 V0 ks V
 len : H.length = b + w
 th : ∀ p bl, getB F ks p = some bl → bl.there → (p < ks0.nx ∧ ∃ b0, getB F ks0 p = some b0 ∧ b0.there) ∨ ∃ j, look nw j = some p
 nw : ∀ j q, look nw j = some q → j < i ∧ V.id q = b + j ∧ q < ks.nx
 free : ∀ j, i ≤ j → getBlk H (b + j) = none
section
variable {ks0 : KS} {V0 : Vl} {f0 : Nat → D} {h0 : Heap} {w i : Nat} {nw : List (Nat × Nat)} {H : Heap} {Rl O : List (List Nat)} {N : List (Bool × List Nat)}
theorem TInv.mask (hr0 : Rel F ks0 V0 f0 h0) (hi : TInv F ks0 V0 h0.length w nw i ks V f H) {p : Nat} {bl : KB} (hp : getB F ks p = some bl) (ht : bl.there) (hm : V.id p ∈ (Rl.getD i []).flatMap (turnsOf h0.length (oIds ks0 V0 O) N)) : p ∈ maskIds Rl O N nw i := by
 obtain ⟨j, hj, hx⟩ := List.mem_flatMap.1 hm
 unfold turnsOf at hx
 rw [oIds_getD] at hx
 rcases hi.th p bl hp ht with ⟨h1, b0, h2, h3⟩ | ⟨j0, h1⟩
 ·rw [(hi.ext.agree p h1).1] at hx
  have hlt := there_lt hr0 h2 h3
  rcases List.mem_append.1 hx with hx | hx
  ·obtain ⟨q, q1, b1, q2, q3, q4⟩ := oIdl_mem hx
   have := hr0.inj p q b0 b1 h2 (getB_of_look q2 (there_ne q3)) h3 q3 q4
   subst this
   exact maskIds_old hj q1
  ·exfalso
   rcases List.mem_append.1 hx with hx | hx
   ·obtain ⟨k, _, hk⟩ := List.mem_map.1 hx; omega
   ·split at hx
    ·have := List.mem_singleton.1 hx; omega
    ·simp at hx
 ·obtain ⟨h2, h3, h4⟩ := hi.nw j0 p h1
  rw [h3] at hx
  rcases List.mem_append.1 hx with hx | hx
  ·obtain ⟨q, q1, b1, q2, q3, q4⟩ := oIdl_mem hx
   have := there_lt hr0 (getB_of_look q2 (there_ne q3)) q3
   omega
  ·rcases List.mem_append.1 hx with hx | hx
   ·obtain ⟨k, k1, k2⟩ := List.mem_map.1 hx
    have : k = j0 := by omega
    subst this
    exact maskIds_upd hj k1 h1
   ·split at hx
    ·rename_i hn
     have := List.mem_singleton.1 hx
     have : j0 = j := by omega
     subst this
     exact maskIds_new hj hn h1
    ·simp at hx
theorem isM_there {b : KB} (h1 : isM b = false) (h2 : b ≠ .dead) : b.there := by
 cases b with
 | mrows e l => simp [isM] at h1
 | dead => exact absurd rfl h2
 | box cs => trivial
 | rows e ne l => trivial
theorem upd_ids (hr0 : Rel F ks0 V0 f0 h0) (hi : TInv F ks0 V0 h0.length w nw i ks V f H) {p : Nat} {b0 : KB} (hb : look ks.bl p = some b0) (hd : b0 ≠ .dead) {uo : List (Nat × Blk)} (huo : (b0.there ∧ ∃ x, uo = [(V.id p, x)]) ∨ (¬ b0.there ∧ uo = [])) : ∀ (P Q : List Nat), updOk ks0 ks nw p P Q = true → uo.map (·.1) = oIdl ks0 V0 P ++ Q.map (h0.length + ·) ∧ ∀ x ∈ oIdl ks0 V0 P ++ Q.map (h0.length + ·), x < h0.length + i
 | [q], [], ho => by
  have ho' : (Nat.beq p q && oldOk ks0 ks p) = true := ho
  rw [Bool.and_eq_true] at ho'
  have := Nat.eq_of_beq_eq_true ho'.1
  subst this
  have h2 := ho'.2
  unfold oldOk at h2
  split at h2
  ·rename_i x0 y0 hx0 hy0
   rw [hb] at hy0
   cases hy0
   have hx0d : x0 ≠ .dead := by rintro rfl; simp at h2
   have hm : isM x0 = isM b0 := by
    cases x0 with
    | dead => exact absurd rfl hx0d
    | _ => simpa using h2
   have hp0 := (hr0.bl p x0 (getB_of_look hx0 hx0d)).1
   have key : x0.there ↔ b0.there := by
    cases x0 with
    | dead => exact absurd rfl hx0d
    | box cs => exact ⟨fun _ => isM_there hm.symm hd, fun _ => trivial⟩
    | rows e ne l => exact ⟨fun _ => isM_there hm.symm hd, fun _ => trivial⟩
    | mrows e l => cases b0 with
     | mrows e' l' =>
      obtain ⟨e1, l1, g1, g2⟩ := (hi.ext.le p hp0).2 e' l' (getB_of_look hb hd)
      rw [getB_of_look hx0 hx0d] at g1
      cases g1
      show l ≠ [] ↔ l' ≠ []
      rw [← List.length_pos_iff, ← List.length_pos_iff, g2]
     | _ => simp [isM] at hm
   have e1 : oIdl ks0 V0 [p] = oId ks0 V0 p := by simp [oIdl]
   rw [e1, List.map_nil, List.append_nil]
   rcases huo with ⟨h3, x, rfl⟩ | ⟨h3, rfl⟩
   ·have h4 : oId ks0 V0 p = [V0.id p] := if_pos ⟨x0, hx0, key.2 h3⟩
    rw [h4]
    have := there_lt hr0 (getB_of_look hx0 hx0d) (key.2 h3)
    exact ⟨by show [V.id p] = _; rw [(hi.ext.agree p hp0).1], fun z hz => by have := List.mem_singleton.1 hz; omega⟩
   ·have h4 : oId ks0 V0 p = [] := if_neg fun ⟨b, g1, g2⟩ => by rw [hx0] at g1; cases g1; exact h3 (key.1 g2)
    rw [h4]
    exact ⟨rfl, fun z hz => by simp at hz⟩
  ·simp at h2
 | [], [j], ho => by
  have ho' : newOkB ks nw p j = true := ho
  unfold newOkB at ho'
  rw [Bool.and_eq_true] at ho'
  obtain ⟨h1, h2⟩ := ho'
  split at h1
  ·rename_i q hq
   have := Nat.eq_of_beq_eq_true h1
   subst this
   rw [hb] at h2
   have hth : b0.there := isM_there (by simpa using h2) hd
   obtain ⟨k1, k2, k3⟩ := hi.nw j p hq
   rcases huo with ⟨_, x, rfl⟩ | ⟨h3, _⟩
   ·refine ⟨?_, fun z hz => ?_⟩
    ·show [V.id p] = _; rw [k2]; simp [oIdl]
    ·have : z = h0.length + j := by simpa [oIdl] using hz
     omega
   ·exact absurd hth h3
  ·simp at h1
 | [], [], ho => by simp [updOk] at ho
 | [], _ :: _ :: _, ho => by simp [updOk] at ho
 | [_], _ :: _, ho => by simp [updOk] at ho
 | _ :: _ :: _, _, ho => by simp [updOk] at ho
theorem turn_ids (hr0 : Rel F ks0 V0 f0 h0) (hi : TInv F ks0 V0 h0.length w nw i ks V f H) {e : KE} {ids : List Nat} (hef : effOk ks0 ks O N nw i ids e = true) (hupd : ∀ p b, e.upd = some (p, b) → ∃ b0, look ks.bl p = some b0 ∧ b0 ≠ .dead ∧ ScB ks.nx b ∧ b0.like b) (hnew : ∀ b, e.new = some b → ScB ks.nx b ∧ b ≠ .dead) {B' : BK} {V' : Vl} {u : List (Nat × Blk)} (hreal : Real B' V' V ks (h0.length + i) e u) :
  u.map (·.1) = turnsOf h0.length (oIds ks0 V0 O) N i ∧ ∀ x ∈ turnsOf h0.length (oIds ks0 V0 O) N i, x < h0.length + (i + 1) := by
 unfold effOk at hef
 simp only [Bool.and_eq_true] at hef
 obtain ⟨⟨_, h2⟩, h3⟩ := hef
 obtain ⟨uo, un, rfl, huo, hun⟩ := hreal
 have hO : uo.map (·.1) = oIdl ks0 V0 (O.getD i []) ++ (N.getD i (false, [])).2.map (h0.length + ·) ∧ ∀ x ∈ oIdl ks0 V0 (O.getD i []) ++ (N.getD i (false, [])).2.map (h0.length + ·), x < h0.length + i := by
  cases hu : e.upd with
  | none =>
   rw [hu] at huo h2
   simp only [Bool.and_eq_true, List.isEmpty_iff] at h2
   rw [show uo = [] from huo, h2.1, h2.2]
   exact ⟨rfl, fun x hx => by simp [oIdl] at hx⟩
  | some z =>
   obtain ⟨p, b⟩ := z
   rw [hu] at huo h2
   simp only [Bool.and_eq_true] at h2
   obtain ⟨b0, g1, g2, _, _⟩ := hupd p b hu
   refine upd_ids hr0 hi g1 g2 ?_ _ _ h2.2
   rcases huo with ⟨x, k1, _, k2⟩ | ⟨k1, _, k2⟩
   ·exact .inl ⟨k2 b0 g1, x, k1⟩
   ·exact .inr ⟨k2 b0 g1, k1⟩
 have hN : un.map (·.1) = (if (N.getD i (false, [])).1 then [h0.length + i] else []) := by
  cases hn : e.new with
  | none =>
   rw [hn] at hun h3
   have h3' : (N.getD i (false, [])).1 = false := by simpa using h3
   rw [show un = [] from hun, h3']; rfl
  | some b =>
   rw [hn] at hun h3
   simp only [Bool.and_eq_true] at h3
   rw [h3.1.1]
   have hth : b.there := isM_there (by simpa using h3.2) (hnew b hn).2
   rcases hun with ⟨x, k1, _, _⟩ | ⟨_, k2⟩
   ·rw [k1]; rfl
   ·exact absurd hth k2
 unfold turnsOf
 rw [oIds_getD, List.map_append, hO.1, hN, List.append_assoc]
 refine ⟨rfl, fun x hx => ?_⟩
 rw [← List.append_assoc] at hx
 rcases List.mem_append.1 hx with hx | hx
 ·have := hO.2 x hx; omega
 ·split at hx
  ·have := List.mem_singleton.1 hx; omega
  ·simp at hx
theorem len_apply : ∀ (u : List (Nat × Blk)) (H : Heap), (∀ x ∈ u, x.1 < H.length) → (Ev.apply H u).length = H.length
 | [], H, h => rfl
 | x :: u, H, h => by
  have h1 := len_put_lt x.2 (h x (by simp))
  show (Ev.apply (putBlk H x.1 x.2) u).length = _
  rw [len_apply u _ (fun z hz => by rw [h1]; exact h z (by simp [hz])), h1]
theorem turnK_ok (hG : GOk G E D0) (hD : D0 ≤ n) {ops : Array Oper} {κ : KS → Option R} (hr0 : Rel F ks0 V0 f0 h0) : ∀ (l : List Oper) (i : Nat) (nw : List (Nat × Nat)) {ks : KS} {V : Vl} {f : Nat → D} {H : Heap}, i + l.length = w → turnK G F ops.toList Rl O N ks0 κ i nw l ks = some r → TInv F ks0 V0 h0.length w nw i ks V f H → holdsQ (Post F ks0 V0 κ r) (evW E (cpR E n) ops h0.length (turnsOf h0.length (oIds ks0 V0 O) N) (fun i => (Rl.getD i []).flatMap (turnsOf h0.length (oIds ks0 V0 O) N)) i l { t := tab F.nt f, h := H })
 | [], i, nw, ks, V, f, H, hl, hs, hi => ⟨ks, V, f, rfl, hi.rel, hs, hi.ext⟩
 | o :: l, i, nw, ks, V, f, H, hl, hs, hi => by
  unfold turnK at hs
  obtain ⟨bb, ks1, g1, g2, g3, g4, g5, g6⟩ := wantK_okT hi.rel hs
  obtain ⟨g, gg1, gg2⟩ := wantF_eq g2
  have hl' : i + 1 + l.length = w := by rw [List.length_cons] at hl; omega
  cases bb with
  | false =>
   simp only [cond_false] at g1
   cases hq : quietI O N i with
   | false => rw [hq] at g1; simp at g1
   | true =>
    rw [hq] at g1
    simp only [cond_true] at g1
    obtain ⟨k1, k2⟩ := skip_rel g4 g3
    have hi' : TInv F ks0 V0 h0.length w nw (i + 1) (skipE o.dst ks1) V (upO o.dst undefD f) H := ⟨k1, hi.ext.trans (g5.trans k2), hi.len, fun p bl hp ht => let ⟨b0, q1, q2⟩ := g6 p bl hp ht; hi.th p b0 q1 q2, fun j q hj => let ⟨q1, q2, q3⟩ := hi.nw j q hj; ⟨by omega, q2, Nat.lt_of_lt_of_le q3 g5.nx⟩, fun j hj => hi.free j (by omega)⟩
    have ih := turnK_ok hG hD hr0 l (i + 1) nw hl' g1 hi'
    have hU : turnsOf h0.length (oIds ks0 V0 O) N i = [] := by
     unfold quietI at hq
     simp only [Bool.and_eq_true, List.isEmpty_iff, Bool.not_eq_true'] at hq
     unfold turnsOf
     rw [oIds_getD, hq.1.1, hq.1.2, hq.2]; rfl
    cases ho : o.dst with
    | none => rw [ho] at ih; exact w_none gg1 ho (guard_off gg2) (by rw [hU]; rfl) (by rw [hU]; rfl) (apply_nil _) ih
    | some d =>
     rw [ho] at ih g3
     exact w_put gg1 ho (blt_lt (by simpa [dstOk] using g3)) (guard_off gg2) (by rw [hU]; rfl) (by rw [hU]; rfl) (apply_nil _) (by rw [up_eq]; exact ih)
  | true =>
   simp only [cond_true] at g1
   obtain ⟨op', ks2, k1, k2, k3, k4, k5, k6⟩ := pickK_okT (E := E) (n := n) g4 g1
   have hi2 : TInv F ks0 V0 h0.length w nw i ks2 V f H := ⟨k4, hi.ext.trans (g5.trans k5), hi.len, fun p bl hp ht => let ⟨b0, q1, q2⟩ := (g6.trans k6) p bl hp ht; hi.th p b0 q1 q2, fun j q hj => let ⟨q1, q2, q3⟩ := hi.nw j q hj; ⟨q1, q2, Nat.lt_of_lt_of_le q3 (g5.trans k5).nx⟩, hi.free⟩
   have hmr := mask_rel (ids := maskIds Rl O N nw i) (ms := (Rl.getD i []).flatMap (turnsOf h0.length (oIds ks0 V0 O) N)) hi2.rel fun p bl hp ht hm => hi2.mask hr0 hp ht hm
   obtain ⟨e, e1, e2⟩ := stepK_ok (M := ks2.nx + 2) hG hD hmr (Nat.le_refl _) (Nat.le_succ _) (by show ks2.nx < _; omega) (by show ks2.nx + 1 < _; omega) k1
   have e1' : cond (effOk ks0 ks2 O N nw i (maskIds Rl O N nw i) e) (turnK G F ops.toList Rl O N ks0 κ (i + 1) (nwE e i (ks2.nx + 1) nw) l (putE o.dst ks2.nx (ks2.nx + 1) e ks2)) none = some r := e1
   cases hef : effOk ks0 ks2 O N nw i (maskIds Rl O N nw i) e with
   | false => rw [hef] at e1'; simp at e1'
   | true =>
    rw [hef] at e1'
    simp only [cond_true] at e1'
    obtain ⟨bo, hrun⟩ := e2.run
    obtain ⟨v, u, s1, s2, s3⟩ := hrun (h0.length + i)
    have hnot : ∀ p b, e.upd = some (p, b) → p ∉ maskIds Rl O N nw i := fun p b hb hp => by
     obtain ⟨b0, q1, q2, _⟩ := e2.upd p b hb
     rw [maskK_look, if_pos hp] at q1
     cases q1
     exact q2 rfl
    have hupd : ∀ p b, e.upd = some (p, b) → ∃ b0, look ks2.bl p = some b0 ∧ b0 ≠ .dead ∧ ScB ks2.nx b ∧ b0.like b := fun p b hb => by
     obtain ⟨b0, q1, q2⟩ := e2.upd p b hb
     rw [maskK_look, if_neg (hnot p b hb)] at q1
     exact ⟨b0, q1, q2⟩
    have hfr := hef
    unfold effOk at hfr
    simp only [Bool.and_eq_true] at hfr
    obtain ⟨⟨f1, f2⟩, f3⟩ := hfr
    have hbe : ∀ p, p ∉ maskIds Rl O N nw i → Be F ks2 (ks2.nx + 1) e p = Be F (maskK (maskIds Rl O N nw i) ks2) (ks2.nx + 1) e p := fun p hp => (be_mask hp).symm
    have s2' : RD (Be F ks2 (ks2.nx + 1) e) (V.set (ks2.nx + 1) (h0.length + i) ks2.nx bo) (normD ks2.nx e.v) v := RD.free hbe (by rw [freeD_norm]; exact f1) s2
    have s3' : Real (Be F ks2 (ks2.nx + 1) e) (V.set (ks2.nx + 1) (h0.length + i) ks2.nx bo) V ks2 (h0.length + i) e u := by
     obtain ⟨uo, un, q1, q2, q3⟩ := s3
     refine ⟨uo, un, q1, ?_, ?_⟩
     ·cases hu : e.upd with
      | none => rw [hu] at q2; exact q2
      | some z =>
       obtain ⟨p, b⟩ := z
       have hp := hnot p b hu
       rw [hu] at q2 f2
       simp only [Bool.and_eq_true] at f2
       have hlk : look (maskK (maskIds Rl O N nw i) ks2).bl p = look ks2.bl p := by rw [maskK_look, if_neg hp]
       rcases q2 with ⟨x, z1, z2, z3⟩ | ⟨z1, z2, z3⟩
       ·exact .inl ⟨x, z1, BlkIs.free hbe f2.1 z2, fun b0 hb0 => z3 b0 (by rw [hlk]; exact hb0)⟩
       ·exact .inr ⟨z1, z2, fun b0 hb0 => z3 b0 (by rw [hlk]; exact hb0)⟩
     ·cases hn : e.new with
      | none => rw [hn] at q3; exact q3
      | some b =>
       rw [hn] at q3 f3
       simp only [Bool.and_eq_true] at f3
       rcases q3 with ⟨x, z1, z2, z3⟩ | ⟨z1, z2⟩
       ·exact .inl ⟨x, z1, BlkIs.free hbe f3.1.2 z2, z3⟩
       ·exact .inr ⟨z1, z2⟩
    obtain ⟨t1, t2⟩ := turn_ids hr0 hi2 hef hupd e2.new s3'
    have hnone : getBlk H (h0.length + i) = none := hi2.free i (Nat.le_refl _)
    have hh := hupd_apply u H (real_nodup k4 hupd s3' hnone)
    obtain ⟨w1, w2⟩ := putE_rel (M := ks2.nx + 2) k4 (Nat.le_refl _) (Nat.le_succ _) (by omega) (by omega) g3 hupd e2.new e2.sc s2' s3' (fun _ => hnone) hh
    have hult : ∀ x ∈ u, x.1 < h0.length + (i + 1) := fun x hx => t2 x.1 (t1 ▸ List.mem_map_of_mem hx)
    have hi' : TInv F ks0 V0 h0.length w (nwE e i (ks2.nx + 1) nw) (i + 1) (putE o.dst ks2.nx (ks2.nx + 1) e ks2) (V.set (ks2.nx + 1) (h0.length + i) ks2.nx bo) (upO o.dst v f) (Ev.apply H u) := by
     have hnwl : ∀ j q, look nw j = some q → look (nwE e i (ks2.nx + 1) nw) j = some q := fun j q hj => by
      unfold nwE
      split
      ·rw [look_cons, if_neg (by have := (hi2.nw j q hj).1; omega)]; exact hj
      ·exact hj
     refine ⟨w1, hi2.ext.trans w2, ?_, ?_, ?_, ?_⟩
     ·rw [len_apply u H (fun x hx => by have := hult x hx; rw [hi2.len]; omega), hi2.len]
     ·intro p bl hp ht
      have hold : ∀ b0, getB F ks2 p = some b0 → b0.there → (p < ks0.nx ∧ ∃ b0, getB F ks0 p = some b0 ∧ b0.there) ∨ ∃ j, look (nwE e i (ks2.nx + 1) nw) j = some p := fun b0 z1 z2 => by
       rcases hi2.th p b0 z1 z2 with h1 | ⟨j, hj⟩
       ·exact .inl h1
       ·exact .inr ⟨j, hnwl j p hj⟩
      have hp' : Be F ks2 (ks2.nx + 1) e p = some bl := hp
      rcases be_cases (fun b hb => (e2.new b hb).2) hp' with ⟨rfl, h1⟩ | h1 | ⟨h1, h2, h3⟩
      ·refine .inr ⟨i, ?_⟩
       unfold nwE
       rw [h1]
       simp only [look_cons, if_true]
      ·obtain ⟨b0, z1, z2, _, _⟩ := hupd p bl h1
       refine hold b0 (getB_of_look z1 z2) ?_
       obtain ⟨uo, un, q1, q2, q3⟩ := s3'
       rw [h1] at q2
       rcases q2 with ⟨x, _, _, z3⟩ | ⟨_, z3, _⟩
       ·exact z3 b0 z1
       ·exact absurd ht z3
      ·exact hold bl h3 ht
     ·intro j q hj
      have hcase : (j = i ∧ q = ks2.nx + 1) ∨ look nw j = some q := by
       unfold nwE at hj
       split at hj
       ·rw [look_cons] at hj
        split at hj
        ·rename_i hji; cases hj; exact .inl ⟨hji, rfl⟩
        ·exact .inr hj
       ·exact .inr hj
      rcases hcase with ⟨rfl, rfl⟩ | hj
      ·exact ⟨Nat.lt_succ_self _, Vl.set_id, by show _ < ks2.nx + 2; omega⟩
      ·obtain ⟨z1, z2, z3⟩ := hi2.nw j q hj
       exact ⟨by omega, by rw [(w2.agree q z3).1, z2], by show _ < ks2.nx + 2; omega⟩
     ·intro j hj
      rw [hh.out _ fun x hx => by have := hult x hx; omega]
      exact hi2.free j (by omega)
    have ih := turnK_ok hG hD hr0 l (i + 1) _ hl' e1' hi'
    have hst := (guard_on gg2).trans ((k2 (h0.length + i) _).trans s1)
    have hall : (turnsOf h0.length (oIds ks0 V0 O) N i).all (· < H.length) = true := List.all_eq_true.2 fun x hx => by
     have := t2 x hx
     have h3 := hi2.len
     exact decide_eq_true (by omega)
    cases ho : o.dst with
    | none => rw [ho] at ih; exact w_none gg1 ho hst t1 hall rfl ih
    | some d =>
     rw [ho] at ih g3
     exact w_put gg1 ho (blt_lt (by simpa [dstOk] using g3)) hst t1 hall rfl (by rw [up_eq]; exact ih)
theorem wpc_turnW (hG : GOk G E D0) (hD : D0 ≤ n) {id : Nat} {l : List Oper} {κ : Ex → KS → Option R} (hq : drawOkQ ⟨l⟩ = true) (hn : newOk ⟨l⟩ N = true) (hdj : djB O (openTo ⟨l⟩) O = true) (hold : oldsOk ks O = true) (hs : turnK G F l (openTo ⟨l⟩) O N ks (κ .normal) 0 [] l ks = some r) (hr : Rel F ks V f h) : WpC E y n (.region id ⟨l⟩ true) (fun e s => ∃ ks' V' f', s.t = tab F.nt f' ∧ Rel F ks' V' f' s.h ∧ κ e ks' = some r ∧ Ext F ks V ks' V') { t := tab F.nt f, h := h } := by
 refine wpc_turnL l.length rfl (oIds ks V O) N (openTo ⟨l⟩) hq hn rfl (dj_oIds hr hdj) (oIds_lt hr) fun h' h1 h2 => ?_
 refine turnK_ok (ops := ⟨l⟩) (w := l.length) hG hD hr l 0 [] (by omega) hs ⟨hr.heap h2, Ext.refl _ _ _, h1, fun p bl hp ht => .inl ⟨(hr.bl p bl hp).1, bl, hp, ht⟩, fun j q hj => by simp [look] at hj, fun j hj => ?_⟩
 rw [h2]
 unfold getBlk
 rw [List.getElem?_eq_none (by omega)]
end
end
end K
end Ev
end Go.Proofs.Ytcnfdbkolbgbcaa
end
section
namespace Go.Proofs.Ytcnfdbkolbgbcaa
namespace Ev
namespace K
open Go Go.RowKit
set_option linter.unusedVariables false
set_option linter.unusedSimpArgs false
section
variable {E : Env} {y : Nat → YldP} {n : Nat} {G : KG} {D0 : Nat}
section loop
variable {F : KF} {ks : KS} {V : Vl} {f : Nat → D} {h : Heap} {a : LoopA} {cs : List KC} {x0 : prodT a.head.sh} {ks2 : KS} {V1 V2 : Vl} {f2 : Nat → D} {x1 : prodT a.head.sh}
theorem boxIds_get {F : KF} {ks : KS} : ∀ {bs : List (Nat × List Sh)} {p : Nat}, p ∈ boxIds F ks bs → ∃ v ∈ bs, ptrAt F ks v.1 = some p
 | [], p, h => by simp [boxIds] at h
 | v :: r, p, h => by
  unfold boxIds at h
  split at h
  ·rename_i q hq
   rcases List.mem_cons.1 h with rfl | h
   ·exact ⟨v, by simp, hq⟩
   ·obtain ⟨w, h1, h2⟩ := boxIds_get h; exact ⟨w, by simp [h1], h2⟩
  ·obtain ⟨w, h1, h2⟩ := boxIds_get h; exact ⟨w, by simp [h1], h2⟩
theorem readX_ok (hr : Rel F ks V f h) (hok : okEnd F ks = true) (hcs : cellsP F ks a.head = some cs) (hrd : RdCs ks a.head.sh cs x0) (ha1 : Agree ks.nx V V1) (hl1 : LeB ks.nx (getB F ks) (getB (frameL F ks a cs) (stateP F ks a.head x1))) {s : St} (hst : s.t = tab F.nt f2) (hr2 : Rel (frameL F ks a cs) ks2 V2 f2 s.h) (hok2 : okEnd (frameL F ks a cs) ks2 = true) (hext : Ext (frameL F ks a cs) (stateP F ks a.head x1) V1 ks2 V2) {e : Ex} : ∀ {l : List (Ex × Pt)} {R : Type} {r : R} {κ : XT l → Option R}, (∀ x ∈ l, bsOk F ks (frameL F ks a cs) x.2 = true) → readX (frameL F ks a cs) ks2 e l κ = some r → ∃ v, κ v = some r ∧ JX F ks V a.keep (deadIds F ks a cs) l v e s
 | [], R, r, κ, hb, hs => by simp [readX] at hs
 | x :: l, R, r, κ, hb, hs => by
  unfold readX at hs
  cases hx : exEq e x.1 with
  | false =>
   rw [hx] at hs
   obtain ⟨v, h1, h2⟩ := readX_ok hr hok hcs hrd ha1 hl1 hst hr2 hok2 hext (fun z hz => hb z (by simp [hz])) hs
   exact ⟨.inr v, h1, h2⟩
  | true =>
   rw [hx] at hs
   obtain ⟨cs2, v, g1, g2, g3, g4⟩ := readP_some hr2 hs
   have hbs := hb x (by simp)
   have hkb : ∀ p, lookF (afterS F ks a.keep (deadIds F ks a cs) x.2 v).bl F.bl p = look ((stateP F ks x.2 v).bl ++ ((deadIds F ks a cs).map (fun p => (p, KB.dead)) ++ (ks.bl ++ F.bl))) p := fun p => by
    rw [← look_append]
    show look ((stateP F ks x.2 v).bl ++ ((deadIds F ks a cs).map (fun p => (p, KB.dead)) ++ ks.bl) ++ F.bl) p = _
    rw [List.append_assoc, List.append_assoc]
   obtain ⟨V3, hr3, ha3, hl3⟩ := loop_to (Fb := F) (kb := afterS F ks a.keep (deadIds F ks a cs) x.2 v) hr hok hcs hr2 hok2 hext hbs g1 g2 g3 rfl rfl (fun i d hd => by
    have hd' : lookF (slotsP x.2.vs ((writeCs x.2.sh v ks.nx).map (·.1)) ++ keepS F ks a.keep) F.sl i = some d := hd
    rw [← look_append, List.append_assoc, look_append] at hd'
    unfold lookF at hd'
    cases hl : look (slotsP x.2.vs ((writeCs x.2.sh v ks.nx).map (·.1))) i with
    | some d' => rw [hl] at hd'; cases hd'; exact .inl rfl
    | none => rw [hl] at hd'; exact .inr hd') hkb
   have hnx1 : ks.nx ≤ (stateP F ks a.head x1).nx := by show ks.nx ≤ ks.nx + _; omega
   refine ⟨.inl v, g4, exEq_eq hx, V3, f2, hst, hr3, ⟨by show ks.nx ≤ ks.nx + _; omega, ?_, ?_, ?_⟩⟩
   ·exact (ha1.trans hext.agree hnx1).trans ha3 (Nat.le_refl _)
   ·exact (hl1.trans hext.le hnx1).trans hl3 (Nat.le_refl _)
   ·intro p hp hl
    have h2 := dom_in hcs hrd hext hp hl
    show look ((stateP F ks x.2 v).bl ++ ((deadIds F ks a cs).map (fun p => (p, KB.dead)) ++ ks.bl)) p = none
    obtain ⟨ca, cb, cw, _, hcb2, _, _⟩ := cellsP_some g1
    have e1 : look (stateP F ks x.2 v).bl p = none := by
     refine stateP_none (fun w hw he => ?_) (fun w hw he => ?_) hp
     ·obtain ⟨q, c, j1, j2⟩ := cellsB_ptr hcb2 w hw
      rw [frame_ptr hok hok2 hbs w hw, he] at j1
      cases j1
      rw [h2] at j2; simp at j2
     ·obtain ⟨q, j1, j2⟩ := frame_row hr hok2 hcs hext hbs w hw
      rw [he] at j2
      cases j2
      obtain ⟨q, k1, k2⟩ := cellsW_own g1 hw
      rw [j1] at k1
      cases k1
      obtain ⟨b, k3, _⟩ := rdCs_own g3 k2
      rw [h2] at k3; simp at k3
    rw [look_append]
    unfold lookF
    rw [e1]
    simp only [look_append]
    unfold lookF
    rcases look_dead (l := deadIds F ks a cs) (p := p) with ⟨h1, h2⟩ | ⟨h1, h2⟩
    ·rw [h1]; exact hl
    ·exfalso
     rcases List.mem_append.1 h2 with h2 | h2
     ·obtain ⟨b', k1, _⟩ := rdCs_own hrd h2
      rw [hl] at k1; simp at k1
     ·obtain ⟨w, hw, hpw⟩ := boxIds_get h2
      obtain ⟨ca, cb, cw, _, hcb, _, _⟩ := cellsP_some hcs
      obtain ⟨p'', c'', j1, j2⟩ := cellsB_ptr hcb w hw
      rw [hpw] at j1
      cases j1
      rw [hl] at j2; simp at j2
end loop
theorem codeK_ok (hG : GOk G E D0) (hD : D0 ≤ n) {A : AnnF} {call : CallK} (hcall : CallOk E n call) : ∀ (c : Code) (R : Type) (F : KF) (ks : KS) (κ : Ex → KS → Option R) (r : R) (V : Vl) (f : Nat → D) (h : Heap), codeK G A call c R F ks κ = some r → Rel F ks V f h → WpC E y n c (PostC F ks V κ r) { t := tab F.nt f, h := h } := by
 intro c
 induction c with
 | skip => intro R F ks κ r V f h hs hr; exact wpc_skip ⟨ks, V, f, rfl, hr, hs, Ext.refl _ _ _⟩
 | region id ops draw =>
  intro R F ks κ r V f h hs hr
  obtain ⟨l⟩ := ops
  cases draw with
  | false =>
   have hs' : opsK G call F (Array.toList ⟨l⟩) (κ .normal) l ks = some r := hs
   exact wpc_opsW (opsK_ok (ops := ⟨l⟩) hG hD hcall l hs' hr)
  | true =>
   have hs' : cond (drawOkQ ⟨l⟩) (match look A.tn id with
    | none => stillK G F l (κ .normal) l ks
    | some T => match brIdss F ks T.old with
     | some O => cond (newOk ⟨l⟩ T.new && djB O (openTo ⟨l⟩) O && oldsOk ks O) (turnK G F l (openTo ⟨l⟩) O T.new ks (κ .normal) 0 [] l ks) none
     | none => none) (match cutAt ⟨l⟩ with
    | some m => cond (drawOkP ⟨l⟩) (stillK G F l (opsK G call F l (κ .normal) (l.drop m)) (l.take m) ks) none
    | none => none) = some r := hs
   cases hq : drawOkQ ⟨l⟩ with
   | true =>
    rw [hq] at hs'
    simp only [cond_true] at hs'
    split at hs'
    ·exact wpc_stillL l.length rfl hq fun h' h1 h2 => stillK_ok (ops := ⟨l⟩) (κ := κ .normal) hG hD l 0 hs' (hr.heap h2)
    ·split at hs'
     ·rename_i T hT _ O hO
      cases hc : (newOk ⟨l⟩ T.new && djB O (openTo ⟨l⟩) O && oldsOk ks O) with
      | false => rw [hc] at hs'; simp at hs'
      | true =>
       rw [hc] at hs'
       simp only [Bool.and_eq_true] at hc
       exact wpc_turnW hG hD hq hc.1.1 hc.1.2 hc.2 hs' hr
     ·simp at hs'
   | false =>
    rw [hq] at hs'
    simp only [cond_false] at hs'
    split at hs'
    ·rename_i m hc
     cases hp : drawOkP ⟨l⟩ with
     | false => rw [hp] at hs'; simp at hs'
     | true =>
      rw [hp] at hs'
      have hr' : Rel F ks V f (h ++ List.replicate (Array.mk l).size .no) := hr.heap fun k => getBlk_pad _ _ _
      refine wpc_cutK m hc hp (holdsQ_mono (stillK_ok (ops := ⟨l⟩) (b := h.length) (κ := opsK G call F l (κ .normal) (l.drop m)) hG hD (l.take m) 0 hs' hr') fun t ht => ?_)
      obtain ⟨ks', V', f', h1, h2, h3, h4⟩ := ht
      simp only at h1 h2
      subst h1
      exact opsW_mono (opsK_ok (ops := ⟨l⟩) hG hD hcall (l.drop m) h3 h2) fun s hs => Post.ext h4 hs
    ·simp at hs'
 | seq a b iha ihb =>
  intro R F ks κ r V f h hs hr
  have hs' : (match A.lp.find? fun z => z.join && (some z.key == firstReg a && Nat.beq z.sz (sizeC a)) with
   | none => codeK G A call a R F ks fun e ks => match e with
    | .normal => codeK G A call b R F ks κ
    | e => κ e ks
   | some z => match cellsP F ks z.head, okEnd F ks with
    | some cs, true => cond (bsOk F ks (frameL F ks z cs) z.head && z.exs.all fun x => bsOk F ks (frameL F ks z cs) x.2) (readP F ks z.head fun x0 =>
     (codeK G A call a (XT z.exs) (frameL F ks z cs) (stateP F ks z.head x0) fun e ks2 => cond (okEnd (frameL F ks z cs) ks2) (readX (frameL F ks z cs) ks2 e z.exs some) none).bind fun y => afterX F ks z.keep (deadIds F ks z cs) z.exs y fun e ks => match e with
      | .normal => codeK G A call b R F ks κ
      | e => κ e ks) none
    | _, _ => none) = some r := hs
  have key : ∀ e s, PostC F ks V (fun e ks => match e with
    | .normal => codeK G A call b R F ks κ
    | e => κ e ks) r e s → thenQ (WpC E y n b (PostC F ks V κ r)) (PostC F ks V κ r) e s := by
   intro e s hp
   obtain ⟨ks', V', f', h1, h2, h3, h4⟩ := hp
   obtain ⟨t, hh⟩ := s
   simp only at h1 h2
   subst h1
   cases e with
   | normal => exact (ihb R F ks' κ r V' f' hh h3 h2).mono fun e s hp => hp.ext h4
   | ret => exact ⟨ks', V', f', rfl, h2, h3, h4⟩
   | exit id => exact ⟨ks', V', f', rfl, h2, h3, h4⟩
  split at hs'
  ·exact wpc_seq ((iha R F ks _ r V f h hs' hr).mono key)
  ·rename_i z hz
   split at hs'
   ·rename_i cs hcs hok
    cases hbs : (bsOk F ks (frameL F ks z cs) z.head && z.exs.all fun x => bsOk F ks (frameL F ks z cs) x.2) with
    | false => rw [hbs] at hs'; simp at hs'
    | true =>
     rw [hbs] at hs'
     rw [Bool.and_eq_true] at hbs
     obtain ⟨hbs0, hbsx⟩ := hbs
     obtain ⟨cs', x0, g1, g2, g3, g4⟩ := readP_some hr hs'
     rw [hcs] at g1
     cases g1
     rw [Option.bind_eq_some_iff] at g4
     obtain ⟨out, g4, g5⟩ := g4
     obtain ⟨V1, hr1, ha1, hl1⟩ := loop_in hr hok hcs g2 g3
     refine wpc_seq ((iha _ (frameL F ks z cs) (stateP F ks z.head x0) _ out V1 f h g4 hr1).mono fun e s hp => key e s ?_)
     obtain ⟨ks2, V2, f2, t1, r2, k1, ext⟩ := hp
     dsimp only at k1
     cases hok2 : okEnd (frameL F ks z cs) ks2 with
     | false => rw [hok2] at k1; simp at k1
     | true =>
      rw [hok2] at k1
      obtain ⟨v, j1, j2⟩ := readX_ok hr hok hcs g3 ha1 hl1 t1 r2 hok2 ext (fun w hw => List.all_eq_true.1 hbsx w hw) k1
      cases j1
      exact afterX_ok g5 j2
   ·simp at hs'
 | cond c a b iha ihb =>
  intro R F ks κ r V f h hs hr
  have hs' : (match kO F ks c with
   | some (.one c) => kIf c ks fun t ks => cond t (codeK G A call a R F ks κ) (codeK G A call b R F ks κ)
   | _ => none) = some r := hs
  split at hs'
  ·rename_i c0 hc
   obtain ⟨d, d1, d2, c', rfl, d3⟩ := kO_ov hr hc
   obtain ⟨t, ks', g1, rfl, g3, g4⟩ := kIf_ok hr d3 hs'
   have e1 : opnd (tab F.nt f) c = some (.one (bC t)) := (ov_eq F.nt f c).trans d1
   refine wpc_cond e1 rfl ?_
   cases t with
   | true => exact (iha R F ks' κ r V f h g1 g3).mono fun e s hp => hp.ext g4
   | false => exact (ihb R F ks' κ r V f h g1 g3).mono fun e s hp => hp.ext g4
  ·simp at hs'
 | block id b ih =>
  intro R F ks κ r V f h hs hr
  have hs' : codeK G A call b R F ks (fun e ks => κ (cond (exEq e (.exit id)) .normal e) ks) = some r := hs
  refine wpc_block ((ih R F ks _ r V f h hs' hr).mono fun e s hp => ?_)
  obtain ⟨ks', V', f', h1, h2, h3, h4⟩ := hp
  refine ⟨ks', V', f', h1, h2, ?_, h4⟩
  rw [← h3]
  have : (if e = .exit id then Ex.normal else e) = cond (exEq e (.exit id)) .normal e := by
   cases hx : exEq e (.exit id) with
   | true => rw [if_pos (exEq_eq hx)]; rfl
   | false => rw [if_neg (fun he => by subst he; simp [exEq] at hx)]; rfl
  rw [this]
 | loop b ih =>
  intro R F ks κ r V f h hs hr
  have hs' : (match A.lp.find? fun a => !a.join && some a.key == firstReg b with
   | none => none
   | some a => match cellsP F ks a.head, okEnd F ks with
    | some cs, true => cond (bsOk F ks (frameL F ks a cs) a.head && a.exs.all fun x => bsOk F ks (frameL F ks a cs) x.2 && !exEq x.1 .normal) (readP F ks a.head fun x0 =>
     (loopO (fun x => codeK G A call b (prodT a.head.sh ⊕ XT a.exs) (frameL F ks a cs) (stateP F ks a.head x) fun e ks2 => cond (okEnd (frameL F ks a cs) ks2) (match e with
      | .normal => readP (frameL F ks a cs) ks2 a.head fun y => some (.inl y)
      | e => readX (frameL F ks a cs) ks2 e a.exs fun y => some (.inr y)) none) x0).bind fun y => afterX F ks a.keep (deadIds F ks a cs) a.exs y κ) none
    | _, _ => none) = some r := hs
  split at hs'
  ·simp at hs'
  ·rename_i a ha
   split at hs'
   ·rename_i cs hcs hok
    cases hbs : (bsOk F ks (frameL F ks a cs) a.head && a.exs.all fun x => bsOk F ks (frameL F ks a cs) x.2 && !exEq x.1 .normal) with
    | false => rw [hbs] at hs'; simp at hs'
    | true =>
     rw [hbs] at hs'
     rw [Bool.and_eq_true] at hbs
     obtain ⟨hbs0, hbsx⟩ := hbs
     obtain ⟨cs', x0, g1, g2, g3, g4⟩ := readP_some hr hs'
     rw [hcs] at g1
     cases g1
     rw [Option.bind_eq_some_iff] at g4
     obtain ⟨out, g4, g5⟩ := g4
     obtain ⟨V1, hr1, ha1, hl1⟩ := loop_in hr hok hcs g2 g3
     refine WpC.mono (wpc_loopO _ (fun x s => ∃ V1 f1, s.t = tab F.nt f1 ∧ Rel (frameL F ks a cs) (stateP F ks a.head x) V1 f1 s.h ∧ Agree ks.nx V V1 ∧ LeB ks.nx (getB F ks) (getB (frameL F ks a cs) (stateP F ks a.head x))) (fun o e s => JX F ks V a.keep (deadIds F ks a cs) a.exs o e s) (fun r s => JX_n (fun z hz => by have := List.all_eq_true.1 hbsx z hz; rw [Bool.and_eq_true] at this; simpa using this.2) r s) ?_ x0 out _ g4 ⟨V1, f, rfl, hr1, ha1, hl1⟩) fun e s hj => afterX_ok g5 hj
     intro x o s hb hI
     obtain ⟨W1, f1, e1, r1, a1, l1⟩ := hI
     obtain ⟨t, hh⟩ := s
     simp only at e1 r1
     subst e1
     refine (ih _ (frameL F ks a cs) (stateP F ks a.head x) _ o W1 f1 hh hb r1).mono fun e s hp => ?_
     obtain ⟨ks2, V2, f2, t1, r2, k1, ext⟩ := hp
     dsimp only at k1
     cases hok2 : okEnd (frameL F ks a cs) ks2 with
     | false => rw [hok2] at k1; simp at k1
     | true =>
      rw [hok2] at k1
      simp only [cond_true] at k1
      have hx : e ≠ .normal → readX (frameL F ks a cs) ks2 e a.exs (fun y => some (.inr y)) = some o → ∃ v, o = .inr v ∧ JX F ks V a.keep (deadIds F ks a cs) a.exs v e s := by
       intro hne hk
       obtain ⟨v, j1, j2⟩ := readX_ok hr hok hcs g3 a1 l1 t1 r2 hok2 ext (fun z hz => by have := List.all_eq_true.1 hbsx z hz; rw [Bool.and_eq_true] at this; exact this.1) hk
       exact ⟨v, (Option.some.inj j1).symm, j2⟩
      cases e with
      | normal =>
       obtain ⟨cs2, v, w1, w2, w3, w4⟩ := readP_some r2 k1
       cases w4
       obtain ⟨V3, hr3, ha3, hl3⟩ := loop_to (Fb := frameL F ks a cs) (kb := stateP F ks a.head v) hr hok hcs r2 hok2 ext hbs0 w1 w2 w3 rfl rfl (fun i d hd => by
        have hd' : lookF (slotsP a.head.vs ((writeCs a.head.sh v ks.nx).map (·.1))) (frameL F ks a cs).sl i = some d := hd
        unfold lookF at hd'
        cases hl : look (slotsP a.head.vs ((writeCs a.head.sh v ks.nx).map (·.1))) i with
        | some d' => rw [hl] at hd'; cases hd'; exact .inl rfl
        | none => rw [hl] at hd'; exact .inr hd') (fun p => (look_append _ _ p).symm)
       exact ⟨rfl, V3, f2, t1, hr3, (a1.trans ext.agree (by show ks.nx ≤ ks.nx + _; omega)).trans ha3 (Nat.le_refl _), (l1.trans ext.le (by show ks.nx ≤ ks.nx + _; omega)).trans hl3 (Nat.le_refl _)⟩
      | ret => obtain ⟨v, rfl, j⟩ := hx (by simp) k1; exact j
      | exit id => obtain ⟨v, rfl, j⟩ := hx (by simp) k1; exact j
   ·simp at hs'
 | exit id => intro R F ks κ r V f h hs hr; exact wpc_exit ⟨ks, V, f, rfl, hr, hs, Ext.refl _ _ _⟩
 | ret => intro R F ks κ r V f h hs hr; exact wpc_ret ⟨ks, V, f, rfl, hr, hs, Ext.refl _ _ _⟩
 | label l => intro R F ks κ r V f h hs hr; exact wpc_label ⟨ks, V, f, rfl, hr, hs, Ext.refl _ _ _⟩
 | scope b ih =>
  intro R F ks κ r V f h hs hr
  exact wpc_scope (ih R F ks κ r V f h hs hr)
 | _ => intro R F ks κ r V f h hs hr; simp [codeK] at hs
end
end K
end Ev
end Go.Proofs.Ytcnfdbkolbgbcaa
end
section
namespace Go.Proofs.Ytcnfdbkolbgbcaa
namespace Ev
namespace K
open Go Go.RowKit
set_option linter.unusedVariables false
set_option linter.unusedSimpArgs false
section
variable {E : Env} {n : Nat} {F : KF} {ks : KS} {V : Vl} {f : Nat → D} {h : Heap} {G : KG} {D0 : Nat}
theorem load_ptr {k i j bz : Nat} {ag : Bool} {sz : Nat} {es : List (List C)} {e cs : List C} {d : D} (hg : getBlk h k = some (bz, es)) (he : es[i]? = some e) (hc : Ev.cut e j sz = some cs) (hv : ofCells ag cs = some d) : load h ag sz (.one (.ptr k i j)) = some d := by
 simp only [load, hg, Option.bind_eq_bind, Option.bind_some, he, hc, hv]
theorem kLoad_ok (hr : Rel F ks V f h) {z : Nat × Bool} {a : KD} {a' : D} {R : Type} {r : R} {κ : KD → Option R} (hs : kLoad F ks z a κ = some r) (ha : RD (getB F ks) V a a') : ∃ d d', κ d = some r ∧ load h z.2 (if z.2 then z.1 else 1) a' = some d' ∧ RD (getB F ks) V d d' ∧ ScD ks.nx d := by
 have hz : wd z = if z.2 then z.1 else 1 := by unfold wd; cases z.2 <;> rfl
 cases a with
 | tup ts => simp [kLoad] at hs
 | agg cs => simp [kLoad] at hs
 | one c =>
  obtain ⟨c', rfl, hc⟩ := ha
  cases c with
  | ptr p j =>
   simp only [kLoad] at hs
   split at hs
   ·rename_i cs hp
    simp only [Option.bind_eq_some_iff] at hs
    obtain ⟨d2, ⟨cs2, g1, g2⟩, g3⟩ := hs
    obtain ⟨g4, g5, sz, cs', g6, g7⟩ := hr.bl p _ hp
    obtain ⟨c2, g8, g9⟩ := g7.cut g1
    obtain ⟨d3, k1, k2, k3⟩ := kOf_some g2 (scs_cut g5 g1) g9
    rw [show c' = _ from hc]
    exact ⟨_, d3, g3, load_ptr g6 rfl (by rw [← hz]; exact g8) k1, k2, k3⟩
   ·simp at hs
  | ip e fr x i y j =>
   simp only [kLoad, Option.bind_eq_some_iff] at hs
   obtain ⟨d2, ⟨cs2, g1, g2⟩, g3⟩ := hs
   obtain ⟨fl, e1, e2, e3⟩ := hc
   obtain ⟨c2, g8, g9⟩ := (kcells_rel (B := getB F ks) (V := V) e3 e y).cut g1
   obtain ⟨d3, k1, k2, k3⟩ := kOf_some g2 (scs_cut (kcells_sc ks.nx fr e y) g1) g9
   refine ⟨_, d3, g3, ?_, k2, k3⟩
   rw [e1]
   simp only [load, Option.bind_eq_bind, map_get (r := e.row) e2, Option.bind_some]
   rw [← hz, g8]
   exact k1
  | pe p i j =>
   simp only [kLoad] at hs
   rw [hc.2]
   split at hs
   ·rename_i e ne l hp
    simp only [Option.bind_eq_some_iff] at hs
    obtain ⟨y, g0, d2, ⟨cs2, g1, g2⟩, g3⟩ := hs
    obtain ⟨g4, g5, g6, _⟩ := hr.bl p _ hp
    obtain ⟨c2, g8, g9⟩ := (kcells_rel (B := getB F ks) (V := V) (fun _ => rfl) e y).cut g1
    obtain ⟨d3, k1, k2, k3⟩ := kOf_some g2 (scs_cut (kcells_sc ks.nx true e y) g1) g9
    exact ⟨_, d3, g3, load_ptr g6 (row_get g0).2 (by rw [← hz]; exact g8) k1, k2, k3⟩
   ·rename_i e l hp
    simp only [Option.bind_eq_some_iff] at hs
    obtain ⟨y, g0, d2, ⟨cs2, g1, g2⟩, g3⟩ := hs
    obtain ⟨g4, g5, g6⟩ := hr.bl p _ hp
    obtain ⟨c2, g8, g9⟩ := (kcells_rel (B := getB F ks) (V := V) (fun _ => rfl) e y).cut g1
    obtain ⟨d3, k1, k2, k3⟩ := kOf_some g2 (scs_cut (kcells_sc ks.nx true e y) g1) g9
    exact ⟨_, d3, g3, load_ptr (g6 (atL_ne g0)) (row_get g0).2 (by rw [← hz]; exact g8) k1, k2, k3⟩
   ·simp at hs
  | _ => simp [kLoad] at hs
theorem resK_ok (hG : GOk G E D0) (hr : Rel F ks V f h) : ∀ {rv : List ResultVar} {R : Type} {r : R} {κ : List KD → Option R}, resK G F ks rv κ = some r → ∃ ds ds', rv.mapM (resultD E { t := tab F.nt f, h := h }) = some ds' ∧ RDl (getB F ks) V ds ds' ∧ (∀ d ∈ ds, ScD ks.nx d) ∧ κ ds = some r
 | [], R, r, κ, hs => ⟨[], [], rfl, rfl, by simp, hs⟩
 | .tmp t :: rv, R, r, κ, hs => by
  simp only [resK, Option.bind_eq_some_iff] at hs
  obtain ⟨d, g1, g2⟩ := hs
  obtain ⟨k1, k2, k3⟩ := hr.sl t d g1
  obtain ⟨ds, ds', e1, e2, e3, e4⟩ := resK_ok hG hr g2
  refine ⟨d :: ds, f t :: ds', ?_, ⟨_, _, rfl, k3, e2⟩, fun x hx => ?_, e4⟩
  ·rw [List.mapM_cons, e1]
   show ((tab F.nt f)[t]?).bind _ = _
   rw [tab_get, if_pos k1]; rfl
  ·rcases List.mem_cons.1 hx with rfl | hx
   ·exact k2
   ·exact e3 x hx
 | .cell a ty :: rv, R, r, κ, hs => by
  simp only [resK] at hs
  split at hs
  ·rename_i z d hz hd
   have hz' := sz_some hG hz
   obtain ⟨k1, k2, k3⟩ := hr.sl a d hd
   obtain ⟨v, v', g1, g2, g3, g4⟩ := kLoad_ok hr hs k3
   obtain ⟨ds, ds', e1, e2, e3, e4⟩ := resK_ok hG hr g1
   refine ⟨v :: ds, v' :: ds', ?_, ⟨_, _, rfl, g3, e2⟩, fun x hx => ?_, e4⟩
   ·unfold sizeAt at hz'
    simp only [Option.bind_eq_some_iff, Option.some.injEq] at hz'
    obtain ⟨ti, w1, w2⟩ := hz'
    rw [List.mapM_cons, e1]
    show (((E.ti ty).bind fun t' => ((tab F.nt f)[a]?).bind fun d => load h (isAggD t'.desc) (if isAggD t'.desc then t'.size else 1) d).bind _) = _
    rw [w1, tab_get, if_pos k1]
    subst w2
    simp only [Option.bind_some]
    rw [g2]; rfl
   ·rcases List.mem_cons.1 hx with rfl | hx
    ·exact g4
    ·exact e3 x hx
  ·simp at hs
theorem tups_ok : ∀ {ds : List KD} {ds' : List D} {ts : List (Bool × List KC)}, tupK.tups ds = some ts → RDl (getB F ks) V ds ds' → (∀ d ∈ ds, ScD ks.nx d) → RTs (getB F ks) V ts ds' ∧ ∀ x ∈ ts, Scs ks.nx x.2
 | [], ds', ts, h, hr, hs => by
  have := Option.some.inj (show some [] = some ts from h)
  subst this
  exact ⟨hr, by simp⟩
 | .one c :: r, ds', ts, h, ⟨d, s, e, h1, h2⟩, hs => by
  simp only [tupK.tups, Option.map_eq_some_iff] at h
  obtain ⟨ts', g1, rfl⟩ := h
  obtain ⟨k1, k2⟩ := tups_ok g1 h2 fun x hx => hs x (by simp [hx])
  refine ⟨⟨d, s, e, h1, k1⟩, fun x hx => ?_⟩
  rcases List.mem_cons.1 hx with rfl | hx
  ·exact fun y hy => by rw [List.mem_singleton.1 hy]; exact hs (.one c) (by simp)
  ·exact k2 x hx
 | .agg cs :: r, ds', ts, h, ⟨d, s, e, h1, h2⟩, hs => by
  simp only [tupK.tups, Option.map_eq_some_iff] at h
  obtain ⟨ts', g1, rfl⟩ := h
  obtain ⟨k1, k2⟩ := tups_ok g1 h2 fun x hx => hs x (by simp [hx])
  refine ⟨⟨d, s, e, h1, k1⟩, fun x hx => ?_⟩
  rcases List.mem_cons.1 hx with rfl | hx
  ·exact hs (.agg cs) (by simp)
  ·exact k2 x hx
 | .tup ts' :: r, ds', ts, h, hr, hs => by simp [tupK.tups] at h
theorem tupK_ok {ds : List KD} {ds' : List D} {d : KD} (h : tupK ds = some d) (hr : RDl (getB F ks) V ds ds') (hs : ∀ d ∈ ds, ScD ks.nx d) : RD (getB F ks) V d (tupD ds') ∧ ScD ks.nx d := by
 match ds, h, hr, hs with
 | [x], h, ⟨d', s, e, h1, h2⟩, hs =>
  cases h
  rw [e, show s = [] from h2]
  exact ⟨h1, hs d (by simp)⟩
 | [], h, hr, hs =>
  cases h
  rw [show ds' = [] from hr]
  exact ⟨⟨[], rfl, rfl⟩, fun x hx => by simp at hx⟩
 | x :: x' :: r, h, hr, hs =>
  have h' : (tupK.tups (x :: x' :: r)).map KD.tup = some d := h
  rw [Option.map_eq_some_iff] at h'
  obtain ⟨ts, g1, rfl⟩ := h'
  obtain ⟨k1, k2⟩ := tups_ok g1 hr hs
  obtain ⟨d1, s1, e1, _, d2, s2, e2, _, _⟩ := hr
  refine ⟨⟨ds', ?_, k1⟩, k2⟩
  rw [e1, e2]; rfl
theorem numS_look : ∀ {l : List KD} {q i : Nat} {d : KD}, look (numS q l) i = some d → ∃ j, i = q + j ∧ l[j]? = some d
 | [], q, i, d, h => by simp [numS, look] at h
 | a :: l, q, i, d, h => by
  unfold numS at h
  rw [look_cons] at h
  split at h
  ·rename_i hi; cases h; exact ⟨0, by omega, rfl⟩
  ·obtain ⟨j, h1, h2⟩ := numS_look h; exact ⟨j + 1, by omega, by simpa using h2⟩
theorem rdl_get {B : BK} : ∀ {l : List KD} {l' : List D} {j : Nat} {d : KD}, RDl B V l l' → l[j]? = some d → ∃ d', l'[j]? = some d' ∧ RD B V d d'
 | [], l', j, d, h, hj => by simp at hj
 | a :: l, l', 0, d, ⟨x, s, e, h1, h2⟩, hj => by simp at hj; subst hj e; exact ⟨x, rfl, h1⟩
 | a :: l, l', j + 1, d, ⟨x, s, e, h1, h2⟩, hj => by subst e; simpa using rdl_get h2 (by simpa using hj)
theorem rdl_len {B : BK} : ∀ {l : List KD} {l' : List D}, RDl B V l l' → l'.length = l.length
 | [], l', h => by rw [show l' = [] from h]; rfl
 | a :: l, l', ⟨x, s, e, h1, h2⟩ => by rw [e, List.length_cons, List.length_cons, rdl_len h2]
theorem frame_rel {nt nx : Nat} {bl : List (Nat × KB)} {args : List KD} {args' : List D} (hb : RelB F { sl := [], bl := bl, nx := nx } V h) (hs : ∀ d ∈ args, ScD nx d) (hr : RDl (getB F { sl := [], bl := bl, nx := nx }) V args args') (hl : args.length ≤ nt) : Rel { F with sl := [], nt := nt } { sl := numS 0 args, bl := bl, nx := nx } V (fA args') h := by
 refine ⟨?_, hb.bl, hb.inj⟩
 intro i d hd
 have hd' : lookF (numS 0 args) [] i = some d := hd
 unfold lookF at hd'
 cases hl' : look (numS 0 args) i with
 | none => rw [hl'] at hd'; simp [look] at hd'
 | some d0 =>
  rw [hl'] at hd'
  cases hd'
  obtain ⟨j, h1, h2⟩ := numS_look hl'
  rw [Nat.zero_add] at h1
  subst h1
  obtain ⟨d', h3, h4⟩ := rdl_get hr h2
  have hi : i < args.length := (List.getElem?_eq_some_iff.1 h2).1
  refine ⟨Nat.lt_of_lt_of_le hi hl, hs d (List.mem_of_getElem? h2), ?_⟩
  show RD _ _ d (args'.getD i undefD)
  rw [List.getD_eq_getElem?_getD, h3]
  exact h4
theorem isRet_of {e : Ex} (h : isRet e = true) : e = .normal ∨ e = .ret := by
 cases e with
 | normal => exact .inl rfl
 | ret => exact .inr rfl
 | exit id => simp [isRet] at h
theorem callK_ok (hG : GOk G E D0) (A : AnnK) : ∀ (c n : Nat), D0 + c ≤ n → CallOk E n (callK G A c)
 | 0, n, hn => fun R F k args ks κ r V h args' hs hb hsc hr => by simp [callK] at hs
 | c + 1, n, hn => fun R F k args ks κ r V h args' hs hb hsc hr => by
  unfold callK at hs
  split at hs
  ·rename_i fi hfi
   obtain ⟨g1, g2⟩ := hG.fi k fi hfi
   split at hs
   ·rename_i hlen
    match n, hn with
    | n0 + 1, hn =>
     refine ⟨n0, fi, rfl, g1, g2, by rw [rdl_len hr]; exact hlen, ?_⟩
     have hrel : Rel { F with sl := [], nt := fi.nt } { ks with sl := numS 0 args } V (fA args') h := frame_rel ⟨hb.bl, hb.inj⟩ hsc hr hlen
     refine (codeK_ok (y := nY) hG (by omega) (callK_ok hG A c n0 (by omega)) fi.body R _ _ _ r V _ h hs hrel).mono fun e s hp => ?_
     obtain ⟨ks', V', f', h1, h2, h3, h4⟩ := hp
     obtain ⟨t, hh⟩ := s
     simp only at h1 h2
     subst h1
     dsimp only at h3
     cases he : isRet e with
     | false => rw [he] at h3; simp at h3
     | true =>
      rw [he] at h3
      obtain ⟨ds, ds', e1, e2, e3, e4⟩ := resK_ok hG h2 h3
      rw [Option.bind_eq_some_iff] at e4
      obtain ⟨d, e5, e6⟩ := e4
      obtain ⟨k1, k2⟩ := tupK_ok e5 e2 e3
      exact ⟨isRet_of he, ds', e1, ks', V', d, e6, k2, k1, ⟨h2.bl, h2.inj⟩, ⟨h4.nx, h4.agree, h4.le, h4.dom⟩⟩
   ·simp at hs
  ·simp at hs
theorem plainB_row : ∀ {e : Ty} (x : e.val), e.plain = true → (rowC e.row x).all plainB = true
 | .I _, _, _ => rfl
 | .B, _, _ => rfl
 | .S _, _, hp => by simp [Ty.plain] at hp
 | .U, _, _ => rfl
 | .C a b, x, hp => by
  simp only [Ty.plain, Bool.and_eq_true] at hp
  unfold rowC
  show ((a.row x.1 ++ b.row x.2).map (pC true)).all plainB = true
  rw [List.map_append, List.all_append]
  have h1 := plainB_row x.1 hp.1
  have h2 := plainB_row x.2 hp.2
  unfold rowC at h1 h2
  rw [h1, h2]; rfl
theorem rds_of_rts {B : BK} : ∀ {l : List (Bool × List KC)} {ds : List D}, RTs B V l ds → RDl B V (l.map mkD) ds
 | [], ds, h => h
 | x :: l, ds, ⟨d, s, e, h1, h2⟩ => ⟨d, s, e, rd_of1 h1, rds_of_rts h2⟩
theorem kds_len (fr : Bool) : ∀ (ts : List TyD) (x : vals ts), (kdsOf fr ts x).length = ts.length
 | [], _ => rfl
 | [t], x => rfl
 | t :: t' :: r, x => by show (kdsOf fr (t' :: r) x.2).length + 1 = _; rw [kds_len fr (t' :: r)]; rfl
theorem tds_len : ∀ (ts : List TyD) (x : vals ts), (tdsOf ts x).length = ts.length
 | [], _ => rfl
 | [t], x => rfl
 | t :: t' :: r, x => by show (tdsOf (t' :: r) x.2).length + 1 = _; rw [tds_len (t' :: r)]; rfl
theorem ownRes_no {B : BK} {ts : List TyD} {ds : List KD} {ds' : List D} {x : vals ts} (hd : decDs B ts ds = some x) (hr : RDl B V ds ds') (hno : oneOwn ds = false) : ownRes h ds' = false := by
 unfold ownRes
 split
 ·rename_i k m
  match ds, hr, hno, hd with
  | [d], ⟨y, s, e, h1, h2⟩, hno, hd =>
   rw [show s = [] from h2] at e
   simp only [List.cons.injEq, and_true] at e
   subst e
   match ts, x, hd with
   | [t], x, hd =>
    have hd' : decD B t d = some x := hd
    cases d with
    | one c =>
     obtain ⟨c', e1, e2⟩ := h1
     cases e1
     cases c with
     | o e p => simp [oneOwn] at hno
     | m e p => simp [oneOwn] at hno
     | n k y => exact absurd (show C.own _ 0 _ = _ from e2) (by simp)
     | b v => exact absurd (show C.own _ 0 _ = _ from e2) (by simp)
     | p t P d => exact absurd e2.1 (by simp)
     | bv y => exact absurd (show C.own _ 0 _ = _ from e2) (by simp)
     | v y => exact absurd (show C.own _ 0 _ = _ from e2) (by simp)
     | nil => exact absurd (show C.own _ 0 _ = _ from e2) (by simp)
     | s e fr y => obtain ⟨fl, e3, _⟩ := e2; exact absurd e3 (by simp)
     | ptr p j => exact absurd (show C.own _ 0 _ = _ from e2) (by simp)
     | pe p i j => exact absurd e2.2 (by simp)
     | ip e fr y i z j => obtain ⟨fl, e3, _⟩ := e2; exact absurd e3 (by simp)
     | clo fn ps => exact absurd (show C.own _ 0 _ = _ from e2) (by simp)
     | yld p => exact absurd (show C.own _ 0 _ = _ from e2) (by simp)
    | agg cs => obtain ⟨c', e1, _⟩ := h1; simp at e1
    | tup ts => simp [decD] at hd'
   | [], x, hd => simp [decDs] at hd
   | _ :: _ :: _, x, hd => simp [decDs] at hd
  | [], hr, _, _ => exact absurd (show [_] = _ from hr) (by simp)
  | _ :: _ :: _, ⟨y, s, e, h1, y2, s2, e2, _, _⟩, _, _ => rw [e2] at e; simp at e
 ·rfl
theorem end_own {rv : List ResultVar} {e : Ty} {l : List e.val} {k : Nat} {ex : Ex} {s : St} (he : ex = .normal ∨ ex = .ret) (hres : rv.mapM (resultD E s) = some [.one (.own k 0 l.length)]) (hg : getBlk s.h k = some (e.size, l.map (rowC e.row))) (hp : e.plain = true) : endQ E rv (.own, [.one (.s true e.size (l.map e.row))]) ex s := by
 have ho : ownRes s.h [.one (.own k 0 l.length)] = true := by
  simp only [ownRes, hg, List.length_map, BEq.rfl, Bool.true_and, List.all_map]
  rw [List.all_eq_true]
  exact fun x _ => plainB_row x hp
 have hv : viewD s.h (.one (.own k 0 l.length)) = some (true, .one (.s true e.size (l.map e.row))) := by
  show (view s.h 6 _).bind _ = _
  rw [vc_own (r := e.row) (L := [[(k, e.size, l.map (rowC e.row))]]) 0 rfl (fun x h m => view_row m) s.h (HB_one hg) 4]; rfl
 have key : holdsQ (fun q : Kind × List TD => q = (.own, [.one (.s true e.size (l.map e.row))])) ((rv.mapM (resultD E s)).bind fun rs => (rs.mapM (viewD s.h)).map fun l => (if ownRes s.h rs then .own else if l.all (·.1) then .fresh else .any, l.map (·.2))) := by
  rw [hres]
  simp only [Option.bind_some, List.mapM_cons, hv, List.mapM_nil, Option.pure_def, Option.bind_eq_bind, Option.map_some, ho]
  rfl
 rcases he with rfl | rfl <;> exact key
theorem end_data {rv : List ResultVar} {ds' : List D} {l : List (Bool × TD)} {ex : Ex} {s : St} (he : ex = .normal ∨ ex = .ret) (hres : rv.mapM (resultD E s) = some ds') (hv : ds'.mapM (viewD s.h) = some l) (ho : ownRes s.h ds' = false) : endQ E rv (cond (l.all (·.1)) .fresh .any, l.map (·.2)) ex s := by
 have key : holdsQ (fun q : Kind × List TD => q = (cond (l.all (·.1)) .fresh .any, l.map (·.2))) ((rv.mapM (resultD E s)).bind fun rs => (rs.mapM (viewD s.h)).map fun l => (if ownRes s.h rs then .own else if l.all (·.1) then .fresh else .any, l.map (·.2))) := by
  rw [hres]
  simp only [Option.bind_some, hv, Option.map_some, ho]
  show (_, _) = (_, _)
  cases l.all (·.1) <;> rfl
 rcases he with rfl | rfl <;> exact key
theorem funK_ok (hG : GOk G E D0) (A : AnnK) {fi : FI} {k : FuncId} {c : Nat} {ins : List TyD} {ok : OutK} {x : vals ins} {out : ok.val} (hax : E.ax k = none) (hf : E.fn k = some fi) (hl : ins.length ≤ fi.nt) (hs : funK G A fi k c ins ok x = some out) (m : Nat) : OutRuns E (m + (D0 + c) + 1) k (tdsOf ins x) ok out := by
 unfold funK at hs
 have hb : RelB { nt := fi.nt } { sl := [], bl := [], nx := 0 } ⟨fun _ => 0, fun _ => false⟩ [] := ⟨fun p b hb => by simp [getB, lookF, look] at hb, fun p q b b' hb => by simp [getB, lookF, look] at hb⟩
 have hargs : RDl (getB { nt := fi.nt } { sl := [], bl := [], nx := 0 }) ⟨fun _ => 0, fun _ => false⟩ ((kdsOf false ins x).map mkD) ((tdsOf ins x).map (unview false)) := rds_of_rts (kds_rel (fun h => h) ins x)
 have hsc : ∀ d ∈ (kdsOf false ins x).map mkD, ScD 0 d := fun d hd => by
  obtain ⟨y, h1, rfl⟩ := List.mem_map.1 hd
  exact mkD_scs (kds_sc 0 false ins x y h1)
 have hrel : Rel { nt := fi.nt } { sl := argsK ins x, bl := [], nx := 0 } ⟨fun _ => 0, fun _ => false⟩ (fA ((tdsOf ins x).map (unview false))) [] := frame_rel (F := { nt := fi.nt }) hb hsc hargs (by rw [List.length_map, kds_len]; exact hl)
 have hw := codeK_ok (y := nY) (n := m + (D0 + c)) hG (by omega) (callK_ok hG A c _ (by omega)) fi.body ok.val _ _ _ out _ _ [] hs hrel
 have hend : ∀ r, (∀ e s, PostC { nt := fi.nt } { sl := argsK ins x, bl := [], nx := 0 } ⟨fun _ => 0, fun _ => false⟩ (fun e ks => cond (isRet e) (resK G { nt := fi.nt } ks fi.results fun ds => endK (getB { nt := fi.nt } ks) ok ds) none) out e s → endQ E fi.results r e s) → RunsP E (m + (D0 + c) + 1) k (tdsOf ins x) r := fun r hq => runs_tab hax hf (by rw [tds_len]; exact hl) (hw.mono hq)
 have hopen : ∀ e s, PostC { nt := fi.nt } { sl := argsK ins x, bl := [], nx := 0 } ⟨fun _ => 0, fun _ => false⟩ (fun e ks => cond (isRet e) (resK G { nt := fi.nt } ks fi.results fun ds => endK (getB { nt := fi.nt } ks) ok ds) none) out e s → ∃ ks' V' f' ds ds', (e = .normal ∨ e = .ret) ∧ Rel { nt := fi.nt } ks' V' f' s.h ∧ fi.results.mapM (resultD E s) = some ds' ∧ RDl (getB { nt := fi.nt } ks') V' ds ds' ∧ endK (getB { nt := fi.nt } ks') ok ds = some out := by
  intro e s hp
  obtain ⟨ks', V', f', h1, h2, h3, h4⟩ := hp
  obtain ⟨t, hh⟩ := s
  simp only at h1 h2
  subst h1
  dsimp only at h3
  cases he : isRet e with
  | false => rw [he] at h3; simp at h3
  | true =>
   rw [he] at h3
   obtain ⟨ds, ds', e1, e2, e3, e4⟩ := resK_ok hG h2 h3
   exact ⟨ks', V', f', ds, ds', isRet_of he, h2, e1, e2, e4⟩
 cases ok with
 | data fr ts =>
  have hdata : ∀ (ks' : KS) (V' : Vl) (ds : List KD) (ds' : List D) (hh : Heap) (f' : Nat → D), Rel { nt := fi.nt } ks' V' f' hh → RDl (getB { nt := fi.nt } ks') V' ds ds' → endK (getB { nt := fi.nt } ks') (.data fr ts) ds = some out → ∃ l, ds'.mapM (viewD hh) = some l ∧ l.map (·.2) = tdsOf ts out ∧ (fr = true → l.all (·.1) = true) ∧ ownRes hh ds' = false := by
   intro ks' V' ds ds' hh f' h2 e2 e4
   unfold endK at e4
   simp only at e4
   split at e4
   ·simp at e4
   ·rename_i hc
    obtain ⟨l, l1, l2, l3⟩ := viewDs_dec h2.bls e4 e2
    have hno : oneOwn ds = false := by cases ho : oneOwn ds with | true => simp [ho] at hc | false => rfl
    refine ⟨l, l1, l2, fun hfr => l3 ?_, ownRes_no e4 e2 hno⟩
    cases ha : ds.all frD with
    | true => rfl
    | false => simp [hfr, ha] at hc
  cases fr with
  | true =>
   refine hend _ fun e s hp => ?_
   obtain ⟨ks', V', f', ds, ds', he, h2, e1, e2, e4⟩ := hopen e s hp
   obtain ⟨l, l1, l2, l3, l4⟩ := hdata ks' V' ds ds' s.h f' h2 e2 e4
   have := end_data (E := E) he e1 l1 l4
   rw [l3 rfl, l2] at this
   exact this
  | false =>
   -- is it new? that is settled when it has run
   obtain ⟨e, s, hrun, hp⟩ := hw
   obtain ⟨ks', V', f', ds, ds', he, h2, e1, e2, e4⟩ := hopen e s hp
   obtain ⟨l, l1, l2, _, l4⟩ := hdata ks' V' ds ds' s.h f' h2 e2 e4
   have := end_data (E := E) he e1 l1 l4
   rw [l2] at this
   exact ⟨l.all (·.1), runs_tab hax hf (by rw [tds_len]; exact hl) ⟨e, s, hrun, this⟩⟩
 | own ty =>
  refine hend _ fun e s hp => ?_
  obtain ⟨ks', V', f', ds, ds', he, h2, e1, e2, e4⟩ := hopen e s hp
  unfold endK at e4
  simp only at e4
  unfold endOwn at e4
  split at e4
  ·rename_i e0 p
   split at e4
   ·rename_i e' ne l hB
    split at e4
    ·rename_i hpl
     rw [Option.map_eq_some_iff] at e4
     obtain ⟨l2, g0, rfl⟩ := e4
     obtain ⟨hty, g0⟩ := castV_some g0
     cases hty
     subst g0
     obtain ⟨y, s', e5, ⟨c', e6, e7⟩, e8⟩ := e2
     rw [show s' = [] from e8] at e5
     rw [e5, e6, e7 _ _ _ hB] at e1
     exact end_own he e1 (h2.bl p _ hB).2.2.1 hpl
    ·simp at e4
   ·simp at e4
  ·simp at e4
 | mown ty =>
  refine hend _ fun e s hp => ?_
  obtain ⟨ks', V', f', ds, ds', he, h2, e1, e2, e4⟩ := hopen e s hp
  have hnil : ∀ {ds'' : List D}, RDl (getB { nt := fi.nt } ks') V' [.one .nil] ds'' → fi.results.mapM (resultD E s) = some ds'' → endQ E fi.results (resM ty.size ty.row []) e s := by
   intro ds'' e2 e1
   obtain ⟨y, s', e5, ⟨c', e6, e7⟩, e8⟩ := e2
   rw [show s' = [] from e8] at e5
   rw [e5, e6, show c' = _ from e7] at e1
   exact end_data (E := E) (l := [(true, .one (.s false 0 []))]) he e1 rfl rfl
  unfold endK at e4
  simp only at e4
  unfold endMown at e4
  split at e4
  ·cases e4
   exact hnil e2 e1
  ·rename_i e0 p
   split at e4
   ·rename_i e' l hB
    split at e4
    ·rename_i hpl
     rw [Option.map_eq_some_iff] at e4
     obtain ⟨l2, g0, rfl⟩ := e4
     obtain ⟨hty, g0⟩ := castV_some g0
     cases hty
     subst g0
     obtain ⟨y, s', e5, ⟨c', e6, e7⟩, e8⟩ := e2
     rw [show s' = [] from e8] at e5
     rw [e5, e6, e7 _ _ hB] at e1
     cases l with
     | nil => exact end_data (E := E) (l := [(true, .one (.s false 0 []))]) he e1 rfl rfl
     | cons a l => exact end_own he e1 ((h2.bl p _ hB).2.2 (by simp)) hpl
    ·simp at e4
   ·simp at e4
  ·rename_i e0 p
   split at e4
   ·rename_i e' ne l hB
    split at e4
    ·rename_i hpl
     rw [Bool.and_eq_true] at hpl
     rw [Option.map_eq_some_iff] at e4
     obtain ⟨l2, g0, rfl⟩ := e4
     obtain ⟨hty, g0⟩ := castV_some g0
     cases hty
     subst g0
     obtain ⟨y, s', e5, ⟨c', e6, e7⟩, e8⟩ := e2
     rw [show s' = [] from e8] at e5
     rw [e5, e6, e7 _ _ _ hB] at e1
     obtain ⟨w1, w2, w3, w4⟩ := h2.bl p _ hB
     cases l with
     | nil => exact absurd rfl (w4 hpl.2)
     | cons a l => exact end_own he e1 w3 hpl.1
    ·simp at e4
   ·simp at e4
  ·simp at e4
 | gown ty =>
  refine hend _ fun e s hp => ?_
  obtain ⟨ks', V', f', ds, ds', he, h2, e1, e2, e4⟩ := hopen e s hp
  unfold endK at e4
  simp only at e4
  unfold endGown at e4
  split at e4
  ·cases e4
   obtain ⟨y, s', e5, ⟨c', e6, e7⟩, e8⟩ := e2
   rw [show s' = [] from e8] at e5
   rw [e5, e6, show c' = _ from e7] at e1
   exact end_data (E := E) (l := [(true, .one (.s false 0 []))]) he e1 rfl rfl
  ·rename_i e0 p
   split at e4
   ·rename_i e' l hB
    split at e4
    ·rename_i hpl
     rw [Option.map_eq_some_iff] at e4
     obtain ⟨l2, g0, rfl⟩ := e4
     obtain ⟨hty, g0⟩ := castV_some g0
     cases hty
     subst g0
     obtain ⟨y, s', e5, ⟨c', e6, e7⟩, e8⟩ := e2
     rw [show s' = [] from e8] at e5
     rw [e5, e6, e7 _ _ hB] at e1
     cases l with
     | nil => exact end_data (E := E) (l := [(true, .one (.s false 0 []))]) he e1 rfl rfl
     | cons a l => exact end_own he e1 ((h2.bl p _ hB).2.2 (by simp)) hpl
    ·simp at e4
   ·simp at e4
  ·rename_i e0 p
   split at e4
   ·rename_i e' ne l hB
    split at e4
    ·rename_i hpl
     rw [Option.map_eq_some_iff] at e4
     obtain ⟨l2, g0, rfl⟩ := e4
     obtain ⟨hty, g0⟩ := castV_some g0
     cases hty
     subst g0
     obtain ⟨y, s', e5, ⟨c', e6, e7⟩, e8⟩ := e2
     rw [show s' = [] from e8] at e5
     rw [e5, e6, e7 _ _ _ hB] at e1
     exact end_own he e1 (h2.bl p _ hB).2.2.1 hpl
    ·simp at e4
   ·simp at e4
  ·simp at e4
end
end K
end Ev
end Go.Proofs.Ytcnfdbkolbgbcaa
end
section
namespace Go.Proofs.Ytcnfdbkolbgbcaa
namespace Ev
namespace K
open Go Go.RowKit
set_option linter.unusedVariables false
set_option linter.unusedSimpArgs false
def AllE (E : Env) (D : Nat) : List Entry → Prop
 | [] => True
 | e :: r => (e.d ≤ D ∧ EntryOk E e) ∧ AllE E D r
def AllF (E : Env) : List (FuncId × FI) → Prop
 | [] => True
 | x :: r => (E.fn x.1 = some x.2 ∧ E.ax x.1 = some fun _ => none) ∧ AllF E r
def AllT (E : Env) : List (Nat × TI) → Prop
 | [] => True
 | x :: r => E.ti x.1 = some x.2 ∧ AllT E r
def AllQ (P : Program) : List (Nat × List IntKind) → Prop
 | [] => True
 | x :: r => EqOk P x.1 x.2 ∧ AllQ P r
theorem allE_mem {E : Env} {D : Nat} : ∀ {l : List Entry}, AllE E D l → ∀ e ∈ l, e.d ≤ D ∧ EntryOk E e
 | [], _, e, h => by simp at h
 | a :: l, ⟨h1, h2⟩, e, h => by
  rcases List.mem_cons.1 h with rfl | h
  ·exact h1
  ·exact allE_mem h2 e h
theorem allF_look {E : Env} : ∀ {l : List (FuncId × FI)}, AllF E l → ∀ k f, look l k = some f → E.fn k = some f ∧ E.ax k = some fun _ => none
 | [], _, k, f, h => by simp [look] at h
 | a :: l, ⟨h1, h2⟩, k, f, h => by
  rw [show a :: l = (a.1, a.2) :: l from rfl, look_cons] at h
  split at h
  ·rename_i hk; cases h; subst hk; exact h1
  ·exact allF_look h2 k f h
theorem allT_look {E : Env} : ∀ {l : List (Nat × TI)}, AllT E l → ∀ k f, look l k = some f → E.ti k = some f
 | [], _, k, f, h => by simp [look] at h
 | a :: l, ⟨h1, h2⟩, k, f, h => by
  rw [show a :: l = (a.1, a.2) :: l from rfl, look_cons] at h
  split at h
  ·rename_i hk; cases h; subst hk; exact h1
  ·exact allT_look h2 k f h
theorem allQ_look {P : Program} : ∀ {l : List (Nat × List IntKind)}, AllQ P l → ∀ k f, look l k = some f → EqOk P k f
 | [], _, k, f, h => by simp [look] at h
 | a :: l, ⟨h1, h2⟩, k, f, h => by
  rw [show a :: l = (a.1, a.2) :: l from rfl, look_cons] at h
  split at h
  ·rename_i hk; cases h; subst hk; exact h1
  ·exact allQ_look h2 k f h
theorem gok {E : Env} {D : Nat} {tt : List (Nat × TI)} {eqs : List (Nat × List IntKind)} {fns : List Entry} {fi : List (FuncId × FI)} (hE : E.Ok) (ht : AllT E tt) (hq : AllQ E.P eqs) (hf : AllE E D fns) (hi : AllF E fi) : GOk ⟨tt, eqs, fns, fi⟩ E D := ⟨hE, allT_look ht, allQ_look hq, allE_mem hf, allF_look hi⟩
noncomputable def mkE (G : KG) (A : AnnK) (fi : FI) (k : FuncId) (c : Nat) (ins : List TyD) (out : OutK) (d : Nat) : Entry := ⟨k, ins, out, funK G A fi k c ins out, d⟩
theorem mkE_ok {E : Env} {D : Nat} {G : KG} {A : AnnK} {fi : FI} {k : FuncId} {c : Nat} {ins : List TyD} {out : OutK} {d : Nat} (hG : GOk G E D) (hax : E.ax k = none) (hf : E.fn k = some fi) (hl : Nat.ble ins.length fi.nt = true) (hd : D + c + 1 = d) : EntryOk E (mkE G A fi k c ins out d) := fun m a o h => by
 subst hd
 exact funK_ok hG A hax hf (Nat.le_of_ble_eq_true hl) h m
def fiF (f : Func) : FI := ⟨f.ntmps, f.results.toList, f.body.getD .skip⟩
theorem fn_of {P : Program} {k : FuncId} {f : Func} {b : Code} (h : P.funcs[k]? = some f) (hb : f.body = some b) : fiOf P k = some (fiF f) := by
 unfold fiOf fiF
 rw [h]
 simp only [hb]
 rfl
theorem eqOk2 {P : Program} {ty : TypeId} {k0 k1 : IntKind} (h : ∀ (x y : Operand) (a0 b0 a1 b1 : Int), pureOf P (do eqGuard .eql ty x y (.agg #[.int k0 a0, .int k1 a1]) (.agg #[.int k0 b0, .int k1 b1]); binOp .eql ty (.agg #[.int k0 a0, .int k1 a1]) (.agg #[.int k0 b0, .int k1 b1])) = some (.bool (a0 == b0 && (a1 == b1 && true))))
  (h' : ∀ (x y : Operand) (a0 b0 a1 b1 : Int), pureOf P (do eqGuard .neq ty x y (.agg #[.int k0 a0, .int k1 a1]) (.agg #[.int k0 b0, .int k1 b1]); binOp .neq ty (.agg #[.int k0 a0, .int k1 a1]) (.agg #[.int k0 b0, .int k1 b1])) = some (.bool (!(a0 == b0 && (a1 == b1 && true))))) : EqOk P ty [k0, k1] := fun x y l hl => by
 match l, hl with
 | [(a0, b0), (a1, b1)], _ =>
  have e : (a0 == b0 && (a1 == b1 && true)) = @decide (eqP [(a0, b0), (a1, b1)]) (eqD [(a0, b0), (a1, b1)]) := dec_iff (by simp [eqP])
  exact ⟨(h x y a0 b0 a1 b1).trans (by rw [e]), (h' x y a0 b0 a1 b1).trans (by rw [e])⟩
theorem eqOk3 {P : Program} {ty : TypeId} {k0 k1 k2 : IntKind} (h : ∀ (x y : Operand) (a0 b0 a1 b1 a2 b2 : Int), pureOf P (do eqGuard .eql ty x y (.agg #[.int k0 a0, .int k1 a1, .int k2 a2]) (.agg #[.int k0 b0, .int k1 b1, .int k2 b2]); binOp .eql ty (.agg #[.int k0 a0, .int k1 a1, .int k2 a2]) (.agg #[.int k0 b0, .int k1 b1, .int k2 b2])) = some (.bool (a0 == b0 && (a1 == b1 && (a2 == b2 && true)))))
  (h' : ∀ (x y : Operand) (a0 b0 a1 b1 a2 b2 : Int), pureOf P (do eqGuard .neq ty x y (.agg #[.int k0 a0, .int k1 a1, .int k2 a2]) (.agg #[.int k0 b0, .int k1 b1, .int k2 b2]); binOp .neq ty (.agg #[.int k0 a0, .int k1 a1, .int k2 a2]) (.agg #[.int k0 b0, .int k1 b1, .int k2 b2])) = some (.bool (!(a0 == b0 && (a1 == b1 && (a2 == b2 && true)))))) : EqOk P ty [k0, k1, k2] := fun x y l hl => by
 match l, hl with
 | [(a0, b0), (a1, b1), (a2, b2)], _ =>
  have e : (a0 == b0 && (a1 == b1 && (a2 == b2 && true))) = @decide (eqP [(a0, b0), (a1, b1), (a2, b2)]) (eqD [(a0, b0), (a1, b1), (a2, b2)]) := dec_iff (by simp [eqP])
  exact ⟨(h x y a0 b0 a1 b1 a2 b2).trans (by rw [e]), (h' x y a0 b0 a1 b1 a2 b2).trans (by rw [e])⟩
end K
@[reducible] def nE {R : Type} (v : Empty) : Option R := K.afterX.match_1 (fun _ => Option R) v
end Ev
end Go.Proofs.Ytcnfdbkolbgbcaa
end
section
namespace Go.Proofs.Ytcnfdbkolbgbcaa
namespace Ev
namespace K
open Go Go.RowKit
set_option linter.unusedVariables false
set_option linter.unusedSimpArgs false
set_option maxRecDepth 100000
set_option maxHeartbeats 1000000
noncomputable def i1 : TI := (⟨.func #[] #[] false, [.nilFunc], 1, 8⟩ : TI)
noncomputable def i4 : TI := (⟨.bool, [.bool false], 1, 1⟩ : TI)
noncomputable def i7 : TI := (⟨.struct (flds Try.prog 7), [.int .i64 0, .int .i64 0, .bool false, .int .u8 0], 4, 24⟩ : TI)
noncomputable def i8 : TI := (⟨.struct (flds Try.prog 8), [.int .i64 0, .int .i64 0, .bool false, .int .u8 0], 4, 24⟩ : TI)
noncomputable def i15 : TI := (⟨.pointer 144, [.pointer none], 1, 8⟩ : TI)
noncomputable def i16 : TI := (⟨.pointer 147, [.pointer none], 1, 8⟩ : TI)
noncomputable def i17 : TI := (⟨.pointer 156, [.pointer none], 1, 8⟩ : TI)
noncomputable def i18 : TI := (⟨.struct (flds Try.prog 18), [.pointer none], 1, 8⟩ : TI)
noncomputable def i19 : TI := (⟨.struct (flds Try.prog 19), [.pointer none], 1, 8⟩ : TI)
noncomputable def i22 : TI := (⟨.slice 30, [.slice none 0 0], 1, 24⟩ : TI)
noncomputable def i23 : TI := (⟨.struct (flds Try.prog 23), [.int .i64 0, .slice none 0 0], 2, 32⟩ : TI)
noncomputable def i24 : TI := (⟨.struct (flds Try.prog 24), [.int .i64 0, .slice none 0 0], 2, 32⟩ : TI)
noncomputable def i25 : TI := (⟨.func #[24] #[24] false, [.nilFunc], 1, 8⟩ : TI)
noncomputable def i26 : TI := (⟨.func #[] #[4] false, [.nilFunc], 1, 8⟩ : TI)
noncomputable def i27 : TI := (⟨.func #[22] #[4] false, [.nilFunc], 1, 8⟩ : TI)
noncomputable def i28 : TI := (⟨.func #[24, 24] #[4] false, [.nilFunc], 1, 8⟩ : TI)
noncomputable def i29 : TI := (⟨.struct (flds Try.prog 29), [.int .i64 0, .int .i64 0, .int .i64 0], 3, 24⟩ : TI)
noncomputable def i30 : TI := (⟨.struct (flds Try.prog 30), [.int .i64 0, .int .i64 0, .int .i64 0], 3, 24⟩ : TI)
noncomputable def i31 : TI := (⟨.func #[24, 22] #[4] false, [.nilFunc], 1, 8⟩ : TI)
noncomputable def i33 : TI := (⟨.array 2 3, [.int .i64 0, .int .i64 0], 2, 16⟩ : TI)
noncomputable def i34 : TI := (⟨.slice 61, [.slice none 0 0], 1, 24⟩ : TI)
noncomputable def i35 : TI := (⟨.func #[34] #[34] false, [.nilFunc], 1, 8⟩ : TI)
noncomputable def i36 : TI := (⟨.slice 3, [.slice none 0 0], 1, 24⟩ : TI)
noncomputable def i37 : TI := (⟨.slice 2, [.slice none 0 0], 1, 24⟩ : TI)
noncomputable def i38 : TI := (⟨.struct (flds Try.prog 38), [.int .i64 0, .int .i64 0, .slice none 0 0, .slice none 0 0, .slice none 0 0], 5, 88⟩ : TI)
noncomputable def i39 : TI := (⟨.struct (flds Try.prog 39), [.int .i64 0, .int .i64 0, .slice none 0 0, .slice none 0 0, .slice none 0 0], 5, 88⟩ : TI)
noncomputable def i42 : TI := (⟨.func #[32, 3, 3, 34] #[39, 40] false, [.nilFunc], 1, 8⟩ : TI)
noncomputable def i43 : TI := (⟨.func #[39, 39] #[4] false, [.nilFunc], 1, 8⟩ : TI)
noncomputable def i44 : TI := (⟨.func #[32, 33, 34] #[4] false, [.nilFunc], 1, 8⟩ : TI)
noncomputable def i45 : TI := (⟨.func #[24] #[39, 40] false, [.nilFunc], 1, 8⟩ : TI)
noncomputable def i46 : TI := (⟨.func #[24] #[40] false, [.nilFunc], 1, 8⟩ : TI)
noncomputable def i48 : TI := (⟨.func #[39, 3, 3] #[2, 4] false, [.nilFunc], 1, 8⟩ : TI)
noncomputable def i49 : TI := (⟨.func #[39] #[4] false, [.nilFunc], 1, 8⟩ : TI)
noncomputable def i50 : TI := (⟨.func #[39] #[3] false, [.nilFunc], 1, 8⟩ : TI)
noncomputable def i51 : TI := (⟨.func #[24] #[4] false, [.nilFunc], 1, 8⟩ : TI)
noncomputable def i53 : TI := (⟨.func #[32, 22] #[22, 40] false, [.nilFunc], 1, 8⟩ : TI)
noncomputable def i54 : TI := (⟨.func #[36, 36] #[4] false, [.nilFunc], 1, 8⟩ : TI)
noncomputable def i55 : TI := (⟨.func #[24] #[36] false, [.nilFunc], 1, 8⟩ : TI)
noncomputable def i56 : TI := (⟨.func #[30, 30] #[4] false, [.nilFunc], 1, 8⟩ : TI)
noncomputable def i57 : TI := (⟨.func #[22, 22] #[4] false, [.nilFunc], 1, 8⟩ : TI)
noncomputable def i58 : TI := (⟨.func #[32] #[4] false, [.nilFunc], 1, 8⟩ : TI)
noncomputable def i59 : TI := (⟨.func #[3] #[4] false, [.nilFunc], 1, 8⟩ : TI)
noncomputable def i60 : TI := (⟨.struct (flds Try.prog 60), [.int .i64 0, .int .i64 0, .int .i64 0], 3, 24⟩ : TI)
noncomputable def i61 : TI := (⟨.struct (flds Try.prog 61), [.int .i64 0, .int .i64 0, .int .i64 0], 3, 24⟩ : TI)
noncomputable def i63 : TI := (⟨.func #[32, 34] #[34, 40] false, [.nilFunc], 1, 8⟩ : TI)
noncomputable def i64 : TI := (⟨.func #[3, 3, 34] #[39] false, [.nilFunc], 1, 8⟩ : TI)
noncomputable def i65 : TI := (⟨.slice 102, [.slice none 0 0], 1, 24⟩ : TI)
noncomputable def i66 : TI := (⟨.func #[39, 3] #[65] false, [.nilFunc], 1, 8⟩ : TI)
noncomputable def i67 : TI := (⟨.func #[39] #[34] false, [.nilFunc], 1, 8⟩ : TI)
noncomputable def i68 : TI := (⟨.func #[39] #[39] false, [.nilFunc], 1, 8⟩ : TI)
noncomputable def i69 : TI := (⟨.func #[39, 33, 33] #[39] false, [.nilFunc], 1, 8⟩ : TI)
noncomputable def i70 : TI := (⟨.func #[37, 37] #[4] false, [.nilFunc], 1, 8⟩ : TI)
noncomputable def i72 : TI := (⟨.func #[39, 3] #[36, 37] false, [.nilFunc], 1, 8⟩ : TI)
noncomputable def i74 : TI := (⟨.func #[36, 3] #[3, 4] false, [.nilFunc], 1, 8⟩ : TI)
noncomputable def i75 : TI := (⟨.func #[36, 3] #[4] false, [.nilFunc], 1, 8⟩ : TI)
noncomputable def i76 : TI := (⟨.func #[22] #[22] false, [.nilFunc], 1, 8⟩ : TI)
noncomputable def i79 : TI := (⟨.struct (flds Try.prog 79), [.int .i64 0, .int .u64 0], 2, 16⟩ : TI)
noncomputable def i80 : TI := (⟨.struct (flds Try.prog 80), [.int .i64 0, .int .u64 0], 2, 16⟩ : TI)
noncomputable def i82 : TI := (⟨.func #[32, 80, 80] #[80] false, [.nilFunc], 1, 8⟩ : TI)
noncomputable def i83 : TI := (⟨.func #[2] #[80] false, [.nilFunc], 1, 8⟩ : TI)
noncomputable def i84 : TI := (⟨.func #[32, 80] #[2, 4] false, [.nilFunc], 1, 8⟩ : TI)
noncomputable def i85 : TI := (⟨.func #[22, 86] #[] false, [.nilFunc], 1, 8⟩ : TI)
noncomputable def i86 : TI := (⟨.func #[30, 30] #[3] false, [.nilFunc], 1, 8⟩ : TI)
noncomputable def i87 : TI := (⟨.func #[22, 89] #[4] false, [.nilFunc], 1, 8⟩ : TI)
noncomputable def i88 : TI := (⟨.func #[3, 3] #[4] false, [.nilFunc], 1, 8⟩ : TI)
noncomputable def i89 : TI := (⟨.func #[30] #[4] false, [.nilFunc], 1, 8⟩ : TI)
noncomputable def i90 : TI := (⟨.func #[24, 89, 91] #[24] false, [.nilFunc], 1, 8⟩ : TI)
noncomputable def i91 : TI := (⟨.func #[30] #[30] false, [.nilFunc], 1, 8⟩ : TI)
noncomputable def i92 : TI := (⟨.func #[24, 93] #[36] false, [.nilFunc], 1, 8⟩ : TI)
noncomputable def i93 : TI := (⟨.func #[30] #[3] false, [.nilFunc], 1, 8⟩ : TI)
noncomputable def i94 : TI := (⟨.func #[34] #[4] false, [.nilFunc], 1, 8⟩ : TI)
noncomputable def i95 : TI := (⟨.func #[34, 96] #[] false, [.nilFunc], 1, 8⟩ : TI)
noncomputable def i96 : TI := (⟨.func #[61, 61] #[3] false, [.nilFunc], 1, 8⟩ : TI)
noncomputable def i97 : TI := (⟨.func #[36] #[] false, [.nilFunc], 1, 8⟩ : TI)
noncomputable def i98 : TI := (⟨.slice 80, [.slice none 0 0], 1, 24⟩ : TI)
noncomputable def i99 : TI := (⟨.func #[80] #[2, 4] false, [.nilFunc], 1, 8⟩ : TI)
noncomputable def i100 : TI := (⟨.func #[3, 3] #[39] false, [.nilFunc], 1, 8⟩ : TI)
noncomputable def i101 : TI := (⟨.struct (flds Try.prog 101), [.int .i64 0, .int .i64 0], 2, 16⟩ : TI)
noncomputable def i102 : TI := (⟨.struct (flds Try.prog 102), [.int .i64 0, .int .i64 0], 2, 16⟩ : TI)
noncomputable def i103 : TI := (⟨.func #[36] #[36] false, [.nilFunc], 1, 8⟩ : TI)
noncomputable def i104 : TI := (⟨.func #[33, 3] #[33] false, [.nilFunc], 1, 8⟩ : TI)
noncomputable def i106 : TI := (⟨.func #[80, 80] #[80] false, [.nilFunc], 1, 8⟩ : TI)
noncomputable def i107 : TI := (⟨.func #[4] #[80] false, [.nilFunc], 1, 8⟩ : TI)
noncomputable def i108 : TI := (⟨.func #[22, 3, 3, 3, 86] #[] false, [.nilFunc], 1, 8⟩ : TI)
noncomputable def i109 : TI := (⟨.func #[105] #[3] false, [.nilFunc], 1, 8⟩ : TI)
noncomputable def i110 : TI := (⟨.func #[36] #[3] true, [.nilFunc], 1, 8⟩ : TI)
noncomputable def i111 : TI := (⟨.func #[3, 3] #[3] false, [.nilFunc], 1, 8⟩ : TI)
noncomputable def i112 : TI := (⟨.func #[22, 89] #[3] false, [.nilFunc], 1, 8⟩ : TI)
noncomputable def i113 : TI := (⟨.func #[34, 3, 3, 3, 96] #[] false, [.nilFunc], 1, 8⟩ : TI)
noncomputable def i114 : TI := (⟨.func #[80, 80] #[3] false, [.nilFunc], 1, 8⟩ : TI)
noncomputable def i115 : TI := (⟨.func #[22, 3, 3, 86] #[] false, [.nilFunc], 1, 8⟩ : TI)
noncomputable def i118 : TI := (⟨.func #[22, 3, 3, 86] #[3, 116] false, [.nilFunc], 1, 8⟩ : TI)
noncomputable def i119 : TI := (⟨.func #[22, 3, 3, 86] #[4] false, [.nilFunc], 1, 8⟩ : TI)
noncomputable def i120 : TI := (⟨.func #[22, 3, 3, 3, 86] #[3] false, [.nilFunc], 1, 8⟩ : TI)
noncomputable def i121 : TI := (⟨.func #[22, 3, 3, 3, 86] #[3, 4] false, [.nilFunc], 1, 8⟩ : TI)
noncomputable def i122 : TI := (⟨.func #[123] #[3] false, [.nilFunc], 1, 8⟩ : TI)
noncomputable def i123 : TI := (⟨.int .u32, [.int .u32 0], 1, 4⟩ : TI)
noncomputable def i124 : TI := (⟨.func #[78] #[3] false, [.nilFunc], 1, 8⟩ : TI)
noncomputable def i125 : TI := (⟨.func #[34, 3, 3, 96] #[] false, [.nilFunc], 1, 8⟩ : TI)
noncomputable def i126 : TI := (⟨.func #[34, 3, 3, 96] #[3, 116] false, [.nilFunc], 1, 8⟩ : TI)
noncomputable def i127 : TI := (⟨.func #[34, 3, 3, 96] #[4] false, [.nilFunc], 1, 8⟩ : TI)
noncomputable def i128 : TI := (⟨.func #[34, 3, 3, 3, 96] #[3] false, [.nilFunc], 1, 8⟩ : TI)
noncomputable def i129 : TI := (⟨.func #[34, 3, 3, 3, 96] #[3, 4] false, [.nilFunc], 1, 8⟩ : TI)
noncomputable def i131 : TI := (⟨.func #[3] #[105] false, [.nilFunc], 1, 8⟩ : TI)
noncomputable def i132 : TI := (⟨.func #[] #[78] false, [.nilFunc], 1, 8⟩ : TI)
noncomputable def i133 : TI := (⟨.func #[22, 3, 134, 86] #[3] false, [.nilFunc], 1, 8⟩ : TI)
noncomputable def i134 : TI := (⟨.pointer 3, [.pointer none], 1, 8⟩ : TI)
noncomputable def i135 : TI := (⟨.func #[22, 3, 3, 3, 134, 86] #[3] false, [.nilFunc], 1, 8⟩ : TI)
noncomputable def i136 : TI := (⟨.func #[34, 3, 134, 96] #[3] false, [.nilFunc], 1, 8⟩ : TI)
noncomputable def i137 : TI := (⟨.func #[34, 3, 3, 3, 134, 96] #[3] false, [.nilFunc], 1, 8⟩ : TI)
noncomputable def i138 : TI := (⟨.pointer 130, [.pointer none], 1, 8⟩ : TI)
noncomputable def i140 : TI := (⟨.func #[22, 3, 3, 134, 86] #[3, 3] false, [.nilFunc], 1, 8⟩ : TI)
noncomputable def i141 : TI := (⟨.func #[34, 3, 3, 134, 96] #[3, 3] false, [.nilFunc], 1, 8⟩ : TI)
noncomputable def i142 : TI := (⟨.func #[] #[9] false, [.nilFunc], 1, 8⟩ : TI)
noncomputable def i145 : TI := (⟨.array 0 16, [], 0, 0⟩ : TI)
noncomputable def i146 : TI := (⟨.struct (flds Try.prog 146), [], 0, 0⟩ : TI)
noncomputable def i147 : TI := (⟨.struct (flds Try.prog 147), [], 0, 0⟩ : TI)
noncomputable def i148 : TI := (⟨.func #[] #[3] false, [.nilFunc], 1, 8⟩ : TI)
noncomputable def i151 : TI := (⟨.func #[157, 157] #[4] false, [.nilFunc], 1, 8⟩ : TI)
noncomputable def i152 : TI := (⟨.pointer 5, [.pointer none], 1, 8⟩ : TI)
noncomputable def i155 : TI := (⟨.struct (flds Try.prog 155), [.int .u64 0, .int .u64 0, .int .u32 0, .int .u8 0, .int .u8 0, .int .u8 0, .int .u8 0, .nilFunc, .pointer none, .int .i32 0, .int .i32 0], 11, 48⟩ : TI)
noncomputable def i156 : TI := (⟨.struct (flds Try.prog 156), [.int .u64 0, .int .u64 0, .int .u32 0, .int .u8 0, .int .u8 0, .int .u8 0, .int .u8 0, .nilFunc, .pointer none, .int .i32 0, .int .i32 0], 11, 48⟩ : TI)
noncomputable def TT : List (Nat × TI) := [(1, i1),
 (2, (⟨.int .i64, [.int .i64 0], 1, 8⟩ : TI)),
 (3, (⟨.int .i64, [.int .i64 0], 1, 8⟩ : TI)),
 (4, i4),
 (5, (⟨.int .u8, [.int .u8 0], 1, 1⟩ : TI)),
 (6, (⟨.int .u8, [.int .u8 0], 1, 1⟩ : TI)),
 (7, i7),
 (8, i8),
 (12, (⟨.int .u64, [.int .u64 0], 1, 8⟩ : TI)),
 (15, i15),
 (16, i16),
 (17, i17),
 (18, i18),
 (19, i19),
 (21, (⟨.int .i32, [.int .i32 0], 1, 4⟩ : TI)),
 (22, i22),
 (23, i23),
 (24, i24),
 (25, i25),
 (26, i26),
 (27, i27),
 (28, i28),
 (29, i29),
 (30, i30),
 (31, i31),
 (32, (⟨.int .i64, [.int .i64 0], 1, 8⟩ : TI)),
 (33, i33),
 (34, i34),
 (35, i35),
 (36, i36),
 (37, i37),
 (38, i38),
 (39, i39),
 (40, (⟨.int .i64, [.int .i64 0], 1, 8⟩ : TI)),
 (42, i42),
 (43, i43),
 (44, i44),
 (45, i45),
 (46, i46),
 (48, i48),
 (49, i49),
 (50, i50),
 (51, i51),
 (53, i53),
 (54, i54),
 (55, i55),
 (56, i56),
 (57, i57),
 (58, i58),
 (59, i59),
 (60, i60),
 (61, i61),
 (63, i63),
 (64, i64),
 (65, i65),
 (66, i66),
 (67, i67),
 (68, i68),
 (69, i69),
 (70, i70),
 (72, i72),
 (74, i74),
 (75, i75),
 (76, i76),
 (78, (⟨.int .u64, [.int .u64 0], 1, 8⟩ : TI)),
 (79, i79),
 (80, i80),
 (82, i82),
 (83, i83),
 (84, i84),
 (85, i85),
 (86, i86),
 (87, i87),
 (88, i88),
 (89, i89),
 (90, i90),
 (91, i91),
 (92, i92),
 (93, i93),
 (94, i94),
 (95, i95),
 (96, i96),
 (97, i97),
 (98, i98),
 (99, i99),
 (100, i100),
 (101, i101),
 (102, i102),
 (103, i103),
 (104, i104),
 (105, (⟨.int .u64, [.int .u64 0], 1, 8⟩ : TI)),
 (106, i106),
 (107, i107),
 (108, i108),
 (109, i109),
 (110, i110),
 (111, i111),
 (112, i112),
 (113, i113),
 (114, i114),
 (115, i115),
 (116, (⟨.int .i64, [.int .i64 0], 1, 8⟩ : TI)),
 (118, i118),
 (119, i119),
 (120, i120),
 (121, i121),
 (122, i122),
 (123, i123),
 (124, i124),
 (125, i125),
 (126, i126),
 (127, i127),
 (128, i128),
 (129, i129),
 (130, (⟨.int .u64, [.int .u64 0], 1, 8⟩ : TI)),
 (131, i131),
 (132, i132),
 (133, i133),
 (134, i134),
 (135, i135),
 (136, i136),
 (137, i137),
 (138, i138),
 (140, i140),
 (141, i141),
 (142, i142),
 (145, i145),
 (146, i146),
 (147, i147),
 (148, i148),
 (149, (⟨.int .u8, [.int .u8 0], 1, 1⟩ : TI)),
 (150, (⟨.int .u8, [.int .u8 0], 1, 1⟩ : TI)),
 (151, i151),
 (152, i152),
 (153, (⟨.int .i32, [.int .i32 0], 1, 4⟩ : TI)),
 (154, (⟨.int .i32, [.int .i32 0], 1, 4⟩ : TI)),
 (155, i155),
 (156, i156)]
theorem tz1 : tiOf Try.prog 1 = some i1 := by kernel_rfl
theorem tz2 : tiOf Try.prog 2 = some (⟨.int .i64, [.int .i64 0], 1, 8⟩ : TI) := by kernel_rfl
theorem tz3 : tiOf Try.prog 3 = some (⟨.int .i64, [.int .i64 0], 1, 8⟩ : TI) := by kernel_rfl
theorem tz4 : tiOf Try.prog 4 = some i4 := by kernel_rfl
theorem tz5 : tiOf Try.prog 5 = some (⟨.int .u8, [.int .u8 0], 1, 1⟩ : TI) := by kernel_rfl
theorem tz6 : tiOf Try.prog 6 = some (⟨.int .u8, [.int .u8 0], 1, 1⟩ : TI) := by kernel_rfl
theorem tz7 : tiOf Try.prog 7 = some i7 := by kernel_rfl
theorem tz8 : tiOf Try.prog 8 = some i8 := by kernel_rfl
theorem tz12 : tiOf Try.prog 12 = some (⟨.int .u64, [.int .u64 0], 1, 8⟩ : TI) := by kernel_rfl
theorem tz15 : tiOf Try.prog 15 = some i15 := by kernel_rfl
theorem tz16 : tiOf Try.prog 16 = some i16 := by kernel_rfl
theorem tz17 : tiOf Try.prog 17 = some i17 := by kernel_rfl
theorem tz18 : tiOf Try.prog 18 = some i18 := by kernel_rfl
theorem tz19 : tiOf Try.prog 19 = some i19 := by kernel_rfl
theorem tz21 : tiOf Try.prog 21 = some (⟨.int .i32, [.int .i32 0], 1, 4⟩ : TI) := by kernel_rfl
theorem tz22 : tiOf Try.prog 22 = some i22 := by kernel_rfl
theorem tz23 : tiOf Try.prog 23 = some i23 := by kernel_rfl
theorem tz24 : tiOf Try.prog 24 = some i24 := by kernel_rfl
theorem tz25 : tiOf Try.prog 25 = some i25 := by kernel_rfl
theorem tz26 : tiOf Try.prog 26 = some i26 := by kernel_rfl
theorem tz27 : tiOf Try.prog 27 = some i27 := by kernel_rfl
theorem tz28 : tiOf Try.prog 28 = some i28 := by kernel_rfl
theorem tz29 : tiOf Try.prog 29 = some i29 := by kernel_rfl
theorem tz30 : tiOf Try.prog 30 = some i30 := by kernel_rfl
theorem tz31 : tiOf Try.prog 31 = some i31 := by kernel_rfl
theorem tz32 : tiOf Try.prog 32 = some (⟨.int .i64, [.int .i64 0], 1, 8⟩ : TI) := by kernel_rfl
theorem tz33 : tiOf Try.prog 33 = some i33 := by kernel_rfl
theorem tz34 : tiOf Try.prog 34 = some i34 := by kernel_rfl
theorem tz35 : tiOf Try.prog 35 = some i35 := by kernel_rfl
theorem tz36 : tiOf Try.prog 36 = some i36 := by kernel_rfl
theorem tz37 : tiOf Try.prog 37 = some i37 := by kernel_rfl
theorem tz38 : tiOf Try.prog 38 = some i38 := by kernel_rfl
theorem tz39 : tiOf Try.prog 39 = some i39 := by kernel_rfl
theorem tz40 : tiOf Try.prog 40 = some (⟨.int .i64, [.int .i64 0], 1, 8⟩ : TI) := by kernel_rfl
theorem tz42 : tiOf Try.prog 42 = some i42 := by kernel_rfl
theorem tz43 : tiOf Try.prog 43 = some i43 := by kernel_rfl
theorem tz44 : tiOf Try.prog 44 = some i44 := by kernel_rfl
theorem tz45 : tiOf Try.prog 45 = some i45 := by kernel_rfl
theorem tz46 : tiOf Try.prog 46 = some i46 := by kernel_rfl
theorem tz48 : tiOf Try.prog 48 = some i48 := by kernel_rfl
theorem tz49 : tiOf Try.prog 49 = some i49 := by kernel_rfl
theorem tz50 : tiOf Try.prog 50 = some i50 := by kernel_rfl
theorem tz51 : tiOf Try.prog 51 = some i51 := by kernel_rfl
theorem tz53 : tiOf Try.prog 53 = some i53 := by kernel_rfl
theorem tz54 : tiOf Try.prog 54 = some i54 := by kernel_rfl
theorem tz55 : tiOf Try.prog 55 = some i55 := by kernel_rfl
theorem tz56 : tiOf Try.prog 56 = some i56 := by kernel_rfl
theorem tz57 : tiOf Try.prog 57 = some i57 := by kernel_rfl
theorem tz58 : tiOf Try.prog 58 = some i58 := by kernel_rfl
theorem tz59 : tiOf Try.prog 59 = some i59 := by kernel_rfl
theorem tz60 : tiOf Try.prog 60 = some i60 := by kernel_rfl
theorem tz61 : tiOf Try.prog 61 = some i61 := by kernel_rfl
theorem tz63 : tiOf Try.prog 63 = some i63 := by kernel_rfl
theorem tz64 : tiOf Try.prog 64 = some i64 := by kernel_rfl
theorem tz65 : tiOf Try.prog 65 = some i65 := by kernel_rfl
theorem tz66 : tiOf Try.prog 66 = some i66 := by kernel_rfl
theorem tz67 : tiOf Try.prog 67 = some i67 := by kernel_rfl
theorem tz68 : tiOf Try.prog 68 = some i68 := by kernel_rfl
theorem tz69 : tiOf Try.prog 69 = some i69 := by kernel_rfl
theorem tz70 : tiOf Try.prog 70 = some i70 := by kernel_rfl
theorem tz72 : tiOf Try.prog 72 = some i72 := by kernel_rfl
theorem tz74 : tiOf Try.prog 74 = some i74 := by kernel_rfl
theorem tz75 : tiOf Try.prog 75 = some i75 := by kernel_rfl
theorem tz76 : tiOf Try.prog 76 = some i76 := by kernel_rfl
theorem tz78 : tiOf Try.prog 78 = some (⟨.int .u64, [.int .u64 0], 1, 8⟩ : TI) := by kernel_rfl
theorem tz79 : tiOf Try.prog 79 = some i79 := by kernel_rfl
theorem tz80 : tiOf Try.prog 80 = some i80 := by kernel_rfl
theorem tz82 : tiOf Try.prog 82 = some i82 := by kernel_rfl
theorem tz83 : tiOf Try.prog 83 = some i83 := by kernel_rfl
theorem tz84 : tiOf Try.prog 84 = some i84 := by kernel_rfl
theorem tz85 : tiOf Try.prog 85 = some i85 := by kernel_rfl
theorem tz86 : tiOf Try.prog 86 = some i86 := by kernel_rfl
theorem tz87 : tiOf Try.prog 87 = some i87 := by kernel_rfl
theorem tz88 : tiOf Try.prog 88 = some i88 := by kernel_rfl
theorem tz89 : tiOf Try.prog 89 = some i89 := by kernel_rfl
theorem tz90 : tiOf Try.prog 90 = some i90 := by kernel_rfl
theorem tz91 : tiOf Try.prog 91 = some i91 := by kernel_rfl
theorem tz92 : tiOf Try.prog 92 = some i92 := by kernel_rfl
theorem tz93 : tiOf Try.prog 93 = some i93 := by kernel_rfl
theorem tz94 : tiOf Try.prog 94 = some i94 := by kernel_rfl
theorem tz95 : tiOf Try.prog 95 = some i95 := by kernel_rfl
theorem tz96 : tiOf Try.prog 96 = some i96 := by kernel_rfl
theorem tz97 : tiOf Try.prog 97 = some i97 := by kernel_rfl
theorem tz98 : tiOf Try.prog 98 = some i98 := by kernel_rfl
theorem tz99 : tiOf Try.prog 99 = some i99 := by kernel_rfl
theorem tz100 : tiOf Try.prog 100 = some i100 := by kernel_rfl
theorem tz101 : tiOf Try.prog 101 = some i101 := by kernel_rfl
theorem tz102 : tiOf Try.prog 102 = some i102 := by kernel_rfl
theorem tz103 : tiOf Try.prog 103 = some i103 := by kernel_rfl
theorem tz104 : tiOf Try.prog 104 = some i104 := by kernel_rfl
theorem tz105 : tiOf Try.prog 105 = some (⟨.int .u64, [.int .u64 0], 1, 8⟩ : TI) := by kernel_rfl
theorem tz106 : tiOf Try.prog 106 = some i106 := by kernel_rfl
theorem tz107 : tiOf Try.prog 107 = some i107 := by kernel_rfl
theorem tz108 : tiOf Try.prog 108 = some i108 := by kernel_rfl
theorem tz109 : tiOf Try.prog 109 = some i109 := by kernel_rfl
theorem tz110 : tiOf Try.prog 110 = some i110 := by kernel_rfl
theorem tz111 : tiOf Try.prog 111 = some i111 := by kernel_rfl
theorem tz112 : tiOf Try.prog 112 = some i112 := by kernel_rfl
theorem tz113 : tiOf Try.prog 113 = some i113 := by kernel_rfl
theorem tz114 : tiOf Try.prog 114 = some i114 := by kernel_rfl
theorem tz115 : tiOf Try.prog 115 = some i115 := by kernel_rfl
theorem tz116 : tiOf Try.prog 116 = some (⟨.int .i64, [.int .i64 0], 1, 8⟩ : TI) := by kernel_rfl
theorem tz118 : tiOf Try.prog 118 = some i118 := by kernel_rfl
theorem tz119 : tiOf Try.prog 119 = some i119 := by kernel_rfl
theorem tz120 : tiOf Try.prog 120 = some i120 := by kernel_rfl
theorem tz121 : tiOf Try.prog 121 = some i121 := by kernel_rfl
theorem tz122 : tiOf Try.prog 122 = some i122 := by kernel_rfl
theorem tz123 : tiOf Try.prog 123 = some i123 := by kernel_rfl
theorem tz124 : tiOf Try.prog 124 = some i124 := by kernel_rfl
theorem tz125 : tiOf Try.prog 125 = some i125 := by kernel_rfl
theorem tz126 : tiOf Try.prog 126 = some i126 := by kernel_rfl
theorem tz127 : tiOf Try.prog 127 = some i127 := by kernel_rfl
theorem tz128 : tiOf Try.prog 128 = some i128 := by kernel_rfl
theorem tz129 : tiOf Try.prog 129 = some i129 := by kernel_rfl
theorem tz130 : tiOf Try.prog 130 = some (⟨.int .u64, [.int .u64 0], 1, 8⟩ : TI) := by kernel_rfl
theorem tz131 : tiOf Try.prog 131 = some i131 := by kernel_rfl
theorem tz132 : tiOf Try.prog 132 = some i132 := by kernel_rfl
theorem tz133 : tiOf Try.prog 133 = some i133 := by kernel_rfl
theorem tz134 : tiOf Try.prog 134 = some i134 := by kernel_rfl
theorem tz135 : tiOf Try.prog 135 = some i135 := by kernel_rfl
theorem tz136 : tiOf Try.prog 136 = some i136 := by kernel_rfl
theorem tz137 : tiOf Try.prog 137 = some i137 := by kernel_rfl
theorem tz138 : tiOf Try.prog 138 = some i138 := by kernel_rfl
theorem tz140 : tiOf Try.prog 140 = some i140 := by kernel_rfl
theorem tz141 : tiOf Try.prog 141 = some i141 := by kernel_rfl
theorem tz142 : tiOf Try.prog 142 = some i142 := by kernel_rfl
theorem tz145 : tiOf Try.prog 145 = some i145 := by kernel_rfl
theorem tz146 : tiOf Try.prog 146 = some i146 := by kernel_rfl
theorem tz147 : tiOf Try.prog 147 = some i147 := by kernel_rfl
theorem tz148 : tiOf Try.prog 148 = some i148 := by kernel_rfl
theorem tz149 : tiOf Try.prog 149 = some (⟨.int .u8, [.int .u8 0], 1, 1⟩ : TI) := by kernel_rfl
theorem tz150 : tiOf Try.prog 150 = some (⟨.int .u8, [.int .u8 0], 1, 1⟩ : TI) := by kernel_rfl
theorem tz151 : tiOf Try.prog 151 = some i151 := by kernel_rfl
theorem tz152 : tiOf Try.prog 152 = some i152 := by kernel_rfl
theorem tz153 : tiOf Try.prog 153 = some (⟨.int .i32, [.int .i32 0], 1, 4⟩ : TI) := by kernel_rfl
theorem tz154 : tiOf Try.prog 154 = some (⟨.int .i32, [.int .i32 0], 1, 4⟩ : TI) := by kernel_rfl
theorem tz155 : tiOf Try.prog 155 = some i155 := by kernel_rfl
theorem tz156 : tiOf Try.prog 156 = some i156 := by kernel_rfl
theorem mixed0 : Try.prog.follows .mixedOrders = true := by kernel_rfl
theorem names0 : namesOk Try.prog = true := by kernel_rfl
def inlF : List TD → Option (Kind × List TD) := fun _ => none
theorem kqeql30 (x y : Operand) (a0 b0 a1 b1 a2 b2 : Int) : pureOf Try.prog (do eqGuard .eql 30 x y (.agg #[.int .i64 a0, .int .i64 a1, .int .i64 a2]) (.agg #[.int .i64 b0, .int .i64 b1, .int .i64 b2]); binOp .eql 30 (.agg #[.int .i64 a0, .int .i64 a1, .int .i64 a2]) (.agg #[.int .i64 b0, .int .i64 b1, .int .i64 b2])) = some (.bool ((a0 == b0 && (a1 == b1 && (a2 == b2 && true))))) := by
 refine pof_eqlA (by kernel_rfl) ((pof_struct 9999 30 #[.int .i64 a0, .int .i64 a1, .int .i64 a2] #[.int .i64 b0, .int .i64 b1, .int .i64 b2] (fs := flds Try.prog 29) (by kernel_rfl) (by kernel_rfl)).trans ?_)
 rw [show (flds Try.prog 29).toList = [fld Try.prog 29 0, fld Try.prog 29 1, fld Try.prog 29 2] by kernel_rfl]
 exact ((pof_field (k := .i64) (k' := .i64) (by kernel_rfl) (by kernel_rfl) (by kernel_rfl) (by kernel_rfl)).trans (and_of ((pof_field (k := .i64) (k' := .i64) (by kernel_rfl) (by kernel_rfl) (by kernel_rfl) (by kernel_rfl)).trans (and_of ((pof_field (k := .i64) (k' := .i64) (by kernel_rfl) (by kernel_rfl) (by kernel_rfl) (by kernel_rfl)).trans (and_of pof_nofield))))))
theorem kqneq30 (x y : Operand) (a0 b0 a1 b1 a2 b2 : Int) : pureOf Try.prog (do eqGuard .neq 30 x y (.agg #[.int .i64 a0, .int .i64 a1, .int .i64 a2]) (.agg #[.int .i64 b0, .int .i64 b1, .int .i64 b2]); binOp .neq 30 (.agg #[.int .i64 a0, .int .i64 a1, .int .i64 a2]) (.agg #[.int .i64 b0, .int .i64 b1, .int .i64 b2])) = some (.bool (!(a0 == b0 && (a1 == b1 && (a2 == b2 && true))))) := by
 refine pof_neqA (by kernel_rfl) ((pof_struct 9999 30 #[.int .i64 a0, .int .i64 a1, .int .i64 a2] #[.int .i64 b0, .int .i64 b1, .int .i64 b2] (fs := flds Try.prog 29) (by kernel_rfl) (by kernel_rfl)).trans ?_)
 rw [show (flds Try.prog 29).toList = [fld Try.prog 29 0, fld Try.prog 29 1, fld Try.prog 29 2] by kernel_rfl]
 exact ((pof_field (k := .i64) (k' := .i64) (by kernel_rfl) (by kernel_rfl) (by kernel_rfl) (by kernel_rfl)).trans (and_of ((pof_field (k := .i64) (k' := .i64) (by kernel_rfl) (by kernel_rfl) (by kernel_rfl) (by kernel_rfl)).trans (and_of ((pof_field (k := .i64) (k' := .i64) (by kernel_rfl) (by kernel_rfl) (by kernel_rfl) (by kernel_rfl)).trans (and_of pof_nofield))))))
theorem kqeql80 (x y : Operand) (a0 b0 a1 b1 : Int) : pureOf Try.prog (do eqGuard .eql 80 x y (.agg #[.int .i64 a0, .int .u64 a1]) (.agg #[.int .i64 b0, .int .u64 b1]); binOp .eql 80 (.agg #[.int .i64 a0, .int .u64 a1]) (.agg #[.int .i64 b0, .int .u64 b1])) = some (.bool ((a0 == b0 && (a1 == b1 && true)))) := by
 refine pof_eqlA (by kernel_rfl) ((pof_struct 9999 80 #[.int .i64 a0, .int .u64 a1] #[.int .i64 b0, .int .u64 b1] (fs := flds Try.prog 79) (by kernel_rfl) (by kernel_rfl)).trans ?_)
 rw [show (flds Try.prog 79).toList = [fld Try.prog 79 0, fld Try.prog 79 1] by kernel_rfl]
 exact ((pof_field (k := .i64) (k' := .i64) (by kernel_rfl) (by kernel_rfl) (by kernel_rfl) (by kernel_rfl)).trans (and_of ((pof_field (k := .u64) (k' := .u64) (by kernel_rfl) (by kernel_rfl) (by kernel_rfl) (by kernel_rfl)).trans (and_of pof_nofield))))
theorem kqneq80 (x y : Operand) (a0 b0 a1 b1 : Int) : pureOf Try.prog (do eqGuard .neq 80 x y (.agg #[.int .i64 a0, .int .u64 a1]) (.agg #[.int .i64 b0, .int .u64 b1]); binOp .neq 80 (.agg #[.int .i64 a0, .int .u64 a1]) (.agg #[.int .i64 b0, .int .u64 b1])) = some (.bool (!(a0 == b0 && (a1 == b1 && true)))) := by
 refine pof_neqA (by kernel_rfl) ((pof_struct 9999 80 #[.int .i64 a0, .int .u64 a1] #[.int .i64 b0, .int .u64 b1] (fs := flds Try.prog 79) (by kernel_rfl) (by kernel_rfl)).trans ?_)
 rw [show (flds Try.prog 79).toList = [fld Try.prog 79 0, fld Try.prog 79 1] by kernel_rfl]
 exact ((pof_field (k := .i64) (k' := .i64) (by kernel_rfl) (by kernel_rfl) (by kernel_rfl) (by kernel_rfl)).trans (and_of ((pof_field (k := .u64) (k' := .u64) (by kernel_rfl) (by kernel_rfl) (by kernel_rfl) (by kernel_rfl)).trans (and_of pof_nofield))))
def EQS : List (Nat × List IntKind) := [(30, [.i64, .i64, .i64]), (80, [.i64, .u64])]
noncomputable def fi3 : FI := fiF Try.f3
noncomputable def fi6 : FI := fiF Try.f6
noncomputable def fi7 : FI := fiF Try.f7
noncomputable def fi9 : FI := fiF Try.f9
noncomputable def fi10 : FI := fiF Try.f10
noncomputable def fi33 : FI := fiF Try.f33
noncomputable def fi34 : FI := fiF Try.f34
noncomputable def fi35 : FI := fiF Try.f35
noncomputable def fi36 : FI := fiF Try.f36
noncomputable def fi55 : FI := fiF Try.f55
noncomputable def fi56 : FI := fiF Try.f56
noncomputable def fi57 : FI := fiF Try.f57
noncomputable def fi59 : FI := fiF Try.f59
noncomputable def fi74 : FI := fiF Try.f74
noncomputable def fi76 : FI := fiF Try.f76
noncomputable def fi86 : FI := fiF Try.f86
noncomputable def fi87 : FI := fiF Try.f87
noncomputable def fi88 : FI := fiF Try.f88
noncomputable def fi89 : FI := fiF Try.f89
noncomputable def fi92 : FI := fiF Try.f92
noncomputable def fi93 : FI := fiF Try.f93
noncomputable def fi99 : FI := fiF Try.f99
noncomputable def fi100 : FI := fiF Try.f100
abbrev yD3 : TyD := (true, .C (.I .i64) (.I .u64))
abbrev yD2 : TyD := (true, .C (.I .i64) (.C (.I .i64) (.I .i64)))
abbrev yD1 : TyD := (false, .S (.C (.I .i64) (.C (.I .i64) (.I .i64))))
abbrev yD0 : TyD := (true, .C (.I .i64) (.S (.C (.I .i64) (.C (.I .i64) (.I .i64)))))
end K
end Ev
end Go.Proofs.Ytcnfdbkolbgbcaa
end
