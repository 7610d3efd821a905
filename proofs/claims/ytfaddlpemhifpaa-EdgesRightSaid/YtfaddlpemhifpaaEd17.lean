/- Lists of edges in order, of the same ends the least: mathematics. -/
import Derived.Test.YtfaddlpemhifpaaEd15
namespace Go.Proofs.Ytfaddlpemhifpaa
open Go.RowKit Go.Sort
set_option linter.unusedVariables false
set_option linter.unusedSimpArgs false
def IsL (l : List Ed) (k : Ky) (o : Option Int) : Prop := match o with
  | none => ∀ e ∈ l, key e ≠ k
  | some z => (∃ e ∈ l, key e = k ∧ e.2.2 = z) ∧ ∀ e ∈ l, key e = k → z ≤ e.2.2
theorem lsr_min {x y : Int} (hx : In64 x) (hy : In64 y) : lsr x y = if y < x then y else x := by
  unfold lsr
  rw [sv_in x (by have := hx.1; omega) (by have := hx.2; omega), sv_in y (by have := hy.1; omega) (by have := hy.2; omega)]
theorem snoc_ind {P : List Ed → Prop} (h0 : P []) (h1 : ∀ l e, P l → P (l ++ [e])) (l : List Ed) : P l := by
  have h : ∀ n (l : List Ed), l.length = n → P l := by
    intro n
    induction n with
    | zero => intro l hl; rw [List.length_eq_zero_iff.1 hl]; exact h0
    | succ n ih =>
      intro l hl
      have hne : l ≠ [] := by rintro rfl; simp at hl
      rw [← List.dropLast_concat_getLast hne]
      exact h1 _ _ (ih _ (by simp [hl]))
  exact h _ l rfl
theorem fm_least (l : List Ed) : (∀ e ∈ l, InE e) → ∀ k, IsL l k (fm 1 l k) := by
  refine snoc_ind (P := fun l => (∀ e ∈ l, InE e) → ∀ k, IsL l k (fm 1 l k)) ?_ ?_ l
  · intro _ k; simp [fm, IsL]
  · intro l e ih hI k
    have hl := ih (fun x hx => hI x (by simp [hx]))
    have he := hI e (by simp)
    rw [fm_snoc]
    unfold upd
    by_cases hk : k = key e
    · rw [if_pos hk]
      subst hk
      have h := hl (key e)
      cases hf : fm 1 l (key e) with
      | none =>
        rw [hf] at h
        simp only [IsL] at h ⊢
        refine ⟨⟨e, by simp, rfl, rfl⟩, fun x hx hk => ?_⟩
        rcases List.mem_append.1 hx with hx | hx
        · exact absurd hk (h x hx)
        · simp at hx; subst hx; exact Int.le_refl _
      | some s =>
        rw [hf] at h
        simp only [IsL] at h ⊢
        obtain ⟨⟨x, hx, hkx, hxs⟩, hmin⟩ := h
        have hs : In64 s := by rw [← hxs]; exact (hI x (by simp [hx])).2.2
        have ha : addR 1 s e.2.2 = if e.2.2 < s then e.2.2 else s := by
          unfold addR; rw [if_pos (.inl rfl)]; exact lsr_min hs he.2.2
        rw [ha]
        by_cases hlt : e.2.2 < s
        · rw [if_pos hlt]
          refine ⟨⟨e, by simp, rfl, rfl⟩, fun y hy hky => ?_⟩
          rcases List.mem_append.1 hy with hy | hy
          · have := hmin y hy hky; omega
          · simp at hy; subst hy; exact Int.le_refl _
        · rw [if_neg hlt]
          refine ⟨⟨x, by simp [hx], hkx, hxs⟩, fun y hy hky => ?_⟩
          rcases List.mem_append.1 hy with hy | hy
          · exact hmin y hy hky
          · simp at hy; subst hy; omega
    · rw [if_neg hk]
      have h := hl k
      cases hf : fm 1 l k with
      | none =>
        rw [hf] at h
        simp only [IsL] at h ⊢
        intro x hx hkx
        rcases List.mem_append.1 hx with hx | hx
        · exact h x hx hkx
        · simp at hx; subst hx; exact hk hkx.symm
      | some s =>
        rw [hf] at h
        simp only [IsL] at h ⊢
        obtain ⟨⟨x, hx, hkx, hxs⟩, hmin⟩ := h
        refine ⟨⟨x, by simp [hx], hkx, hxs⟩, fun y hy hky => ?_⟩
        rcases List.mem_append.1 hy with hy | hy
        · exact hmin y hy hky
        · simp at hy; subst hy; exact absurd hky.symm hk
theorem fm_in {l : List Ed} (hI : ∀ e ∈ l, InE e) {k : Ky} {z : Int} (h : fm 1 l k = some z) : In64 z := by
  have := fm_least l hI k
  rw [h] at this
  obtain ⟨⟨e, he, _, rfl⟩, _⟩ := this
  exact (hI e he).2.2
theorem canR_map {l : List Ed} (hI : ∀ e ∈ l, InE e) : canR l = (canS 1 l).map toE := by
  unfold canR
  rw [combR_all (by decide) (fun k z h => nb_in (fm_in hI h))]
theorem mem_can {l : List Ed} (hI : ∀ e ∈ l, InE e) (e : Ed) : e ∈ canR l ↔ fm 1 l (key e) = some e.2.2 := by
  rw [canR_map hI, List.mem_map]
  constructor
  · rintro ⟨p, hp, rfl⟩
    have h := ((rep_can 1 l).2 p.1 p.2).1 hp
    have hz := fm_in hI h
    simp only [toE, key, nv_in hz]
    exact h
  · intro h
    refine ⟨(key e, e.2.2), ((rep_can 1 l).2 _ _).2 h, ?_⟩
    simp [toE, key, nv_in (fm_in hI h)]
theorem can_sub {l : List Ed} (hI : ∀ e ∈ l, InE e) {e : Ed} (h : e ∈ canR l) : e ∈ l := by
  have h1 := (mem_can hI e).1 h
  have h2 := fm_least l hI (key e)
  rw [h1] at h2
  obtain ⟨⟨x, hx, hk, hw⟩, _⟩ := h2
  have : x = e := by
    have a1 := congrArg Prod.fst hk
    have a2 := congrArg Prod.snd hk
    simp [key] at a1 a2
    exact Prod.ext a1 (Prod.ext a2 hw)
  rw [← this]; exact hx
theorem can_in {l : List Ed} (hI : ∀ e ∈ l, InE e) : ∀ e ∈ canR l, InE e := fun e he => hI e (can_sub hI he)
def Dom (l m : List Ed) : Prop := ∀ e ∈ l, ∃ e' ∈ m, key e' = key e ∧ e'.2.2 ≤ e.2.2
theorem Dom.sub {l m : List Ed} (h : ∀ e ∈ l, e ∈ m) : Dom l m := fun e he => ⟨e, h e he, rfl, Int.le_refl _⟩
theorem Dom.refl (l : List Ed) : Dom l l := Dom.sub fun _ h => h
theorem Dom.trans {l m n : List Ed} (h1 : Dom l m) (h2 : Dom m n) : Dom l n := fun e he => by
  obtain ⟨e', he', hk, hw⟩ := h1 e he
  obtain ⟨x, hx, hk2, hw2⟩ := h2 e' he'
  exact ⟨x, hx, hk2.trans hk, Int.le_trans hw2 hw⟩
theorem Dom.append {l m n : List Ed} (h1 : Dom l n) (h2 : Dom m n) : Dom (l ++ m) n := fun e he => by
  rcases List.mem_append.1 he with h | h
  · exact h1 e h
  · exact h2 e h
theorem Dom.inl {l m : List Ed} (n : List Ed) (h : Dom l m) : Dom l (m ++ n) := h.trans (Dom.sub fun e he => by simp [he])
theorem Dom.inr {l m : List Ed} (n : List Ed) (h : Dom l m) : Dom l (n ++ m) := h.trans (Dom.sub fun e he => by simp [he])
theorem Dom.turn {l m : List Ed} (h : Dom l m) : Dom (l.map turnE) (m.map turnE) := fun e he => by
  obtain ⟨x, hx, rfl⟩ := List.mem_map.1 he
  obtain ⟨y, hy, hk, hw⟩ := h x hx
  refine ⟨turnE y, List.mem_map.2 ⟨y, hy, rfl⟩, ?_, hw⟩
  simp [key, turnE] at hk ⊢
  exact ⟨hk.2, hk.1⟩
theorem dom_can {l : List Ed} (hI : ∀ e ∈ l, InE e) : Dom l (canR l) := fun e he => by
  have h := fm_least l hI (key e)
  cases hf : fm 1 l (key e) with
  | none => rw [hf] at h; exact absurd rfl (h e he)
  | some z =>
    rw [hf] at h
    exact ⟨(e.1, e.2.1, z), (mem_can hI _).2 hf, rfl, h.2 e he rfl⟩
theorem can_dom {l : List Ed} (hI : ∀ e ∈ l, InE e) : Dom (canR l) l := Dom.sub fun e he => can_sub hI he
theorem fm_eq {l m : List Ed} (hl : ∀ e ∈ l, InE e) (hm : ∀ e ∈ m, InE e) (h1 : Dom l m) (h2 : Dom m l) (k : Ky) : fm 1 l k = fm 1 m k := by
  have a := fm_least l hl k
  have b := fm_least m hm k
  cases hf : fm 1 l k with
  | none =>
    rw [hf] at a
    cases hg : fm 1 m k with
    | none => rfl
    | some z =>
      rw [hg] at b
      obtain ⟨⟨x, hx, hk, _⟩, _⟩ := b
      obtain ⟨y, hy, hk2, _⟩ := h2 x hx
      exact absurd (hk2.trans hk) (a y hy)
  | some s =>
    rw [hf] at a
    obtain ⟨⟨x, hx, hk, hxs⟩, hmin⟩ := a
    obtain ⟨y, hy, hk2, hw⟩ := h1 x hx
    cases hg : fm 1 m k with
    | none => rw [hg] at b; exact absurd (hk2.trans hk) (b y hy)
    | some z =>
      rw [hg] at b
      obtain ⟨⟨x', hx', hk', hxs'⟩, hmin'⟩ := b
      obtain ⟨y', hy', hk2', hw'⟩ := h2 x' hx'
      have e1 := hmin' y hy (hk2.trans hk)
      have e2 := hmin y' hy' (hk2'.trans hk')
      rw [show s = z by omega]
theorem canR_eq {l m : List Ed} (hl : ∀ e ∈ l, InE e) (hm : ∀ e ∈ m, InE e) (h1 : Dom l m) (h2 : Dom m l) : canR l = canR m := by
  have hf : fm 1 l = fm 1 m := funext (fm_eq hl hm h1 h2)
  have hs : canS 1 l = canS 1 m := (rep_can 1 l).uniq (by rw [hf]; exact rep_can 1 m)
  rw [canR_map hl, canR_map hm, hs]
theorem in_turn {l : List Ed} (h : ∀ e ∈ l, InE e) : ∀ e ∈ l.map turnE, InE e := fun e he => by
  obtain ⟨x, hx, rfl⟩ := List.mem_map.1 he
  exact ⟨(h x hx).2.1, (h x hx).1, (h x hx).2.2⟩
theorem in_app {l m : List Ed} (h : ∀ e ∈ l, InE e) (h2 : ∀ e ∈ m, InE e) : ∀ e ∈ l ++ m, InE e := fun e he => by
  rcases List.mem_append.1 he with he | he
  · exact h e he
  · exact h2 e he
theorem turn_turn (l : List Ed) : (l.map turnE).map turnE = l := by
  rw [List.map_map]
  exact (List.map_congr_left (g := id) fun e _ => rfl).trans (List.map_id l)
theorem chg_turn (l : List Ed) : chg (fun _ => true) turnE l = l.map turnE := by
  unfold chg
  rw [List.filter_eq_self.2 (fun _ _ => rfl)]
theorem canR_idem {l : List Ed} (hI : ∀ e ∈ l, InE e) : canR (canR l) = canR l := canR_eq (can_in hI) hI (can_dom hI) (dom_can hI)
theorem canR_swap {l m : List Ed} (hl : ∀ e ∈ l, InE e) (hm : ∀ e ∈ m, InE e) : canR (l ++ m) = canR (m ++ l) :=
  canR_eq (in_app hl hm) (in_app hm hl) (Dom.append ((Dom.refl l).inr m) ((Dom.refl m).inl l)) (Dom.append ((Dom.refl m).inr l) ((Dom.refl l).inl m))
/-- Both ways: the reference's list and the program's are combined alike. -/
theorem both_ref {l : List Ed} (hI : ∀ e ∈ l, InE e) : canR (canR (l.map turnE) ++ l) = canR (l ++ l.map turnE) :=
  have ht := in_turn hI
  canR_eq (in_app (can_in ht) hI) (in_app hI ht) (Dom.append ((can_dom ht).inr l) ((Dom.refl l).inl _)) (Dom.append ((Dom.refl l).inr _) ((dom_can ht).inl l))
theorem turn_twice {l : List Ed} (hI : ∀ e ∈ l, InE e) : canR ((canR (l.map turnE)).map turnE) = canR l := by
  have ht := in_turn hI
  refine canR_eq (in_turn (can_in ht)) hI ?_ ?_
  · have := (can_dom ht).turn; rwa [turn_turn] at this
  · have := (dom_can ht).turn; rwa [turn_turn] at this
theorem turn_both {l : List Ed} (hI : ∀ e ∈ l, InE e) : canR ((canR (l ++ l.map turnE)).map turnE) = canR (l ++ l.map turnE) := by
  have ht := in_turn hI
  have hb := in_app hI ht
  have h1 : Dom ((l ++ l.map turnE).map turnE) (l ++ l.map turnE) := Dom.sub fun e he => by
    rw [List.map_append, turn_turn] at he
    rcases List.mem_append.1 he with h | h <;> simp [h]
  have h2 : Dom (l ++ l.map turnE) ((l ++ l.map turnE).map turnE) := Dom.sub fun e he => by
    rw [List.map_append, turn_turn]
    rcases List.mem_append.1 he with h | h <;> simp [h]
  exact canR_eq (in_turn (can_in hb)) hb ((can_dom hb).turn.trans h1) (h2.trans (dom_can hb).turn)
theorem both_both {l : List Ed} (hI : ∀ e ∈ l, InE e) : canR (canR (l ++ l.map turnE) ++ (canR (l ++ l.map turnE)).map turnE) = canR (l ++ l.map turnE) := by
  have ht := in_turn hI
  have hb := in_app hI ht
  have h1 : Dom ((l ++ l.map turnE).map turnE) (l ++ l.map turnE) := Dom.sub fun e he => by
    rw [List.map_append, turn_turn] at he
    rcases List.mem_append.1 he with h | h <;> simp [h]
  exact canR_eq (in_app (can_in hb) (in_turn (can_in hb))) hb (Dom.append (can_dom hb) ((can_dom hb).turn.trans h1)) ((dom_can hb).inl _)
theorem can_pw {l : List Ed} (hI : ∀ e ∈ l, InE e) : (canR l).Pairwise (fun a b => klt (key a) (key b) = true) := by
  rw [canR_map hI, List.pairwise_map]
  exact (rep_can 1 l).1
theorem can_nodup {l : List Ed} (hI : ∀ e ∈ l, InE e) : (canR l).Nodup := (can_pw hI).imp fun {a b} h e => by rw [e, klt_irr] at h; cases h
theorem can_rises {l : List Ed} (hI : ∀ e ∈ l, InE e) : risB (canR l) = true := by
  refine risB_t fun j hj => ?_
  have h := List.pairwise_iff_getElem.1 (can_pw hI) j (j + 1) (by omega) hj (by omega)
  have h2 := of_decide_eq_true h
  refine decide_eq_true ?_
  simpa [el, List.getD_eq_getElem?_getD, show j < (canR l).length by omega, hj, key] using h2
theorem ins_length (r : Int) (e : Ed) : ∀ S : List (Ky × Int), (ins r S e).length ≤ S.length + 1
  | [] => by simp [ins]
  | p :: S => by
    unfold ins
    split
    · have := ins_length r e S; simp; omega
    · split <;> simp
theorem canS_length (r : Int) (l : List Ed) : (canS r l).length ≤ l.length := by
  refine snoc_ind (P := fun l => (canS r l).length ≤ l.length) (by simp [canS]) (fun l e ih => ?_) l
  rw [canS_snoc]
  have := ins_length r e (canS r l)
  simp; omega
theorem canR_length (l : List Ed) : (canR l).length ≤ l.length := by
  unfold canR combR
  have := canS_length 1 l
  split
  · split
    · simpa using this
    · simp
  · simp
theorem turn_perm {l : List Ed} (hI : ∀ e ∈ l, InE e) : (canR (l.map turnE)).Perm ((canR l).map turnE) := by
  have ht := in_turn hI
  have hn : ((canR l).map turnE).Nodup := by
    rw [List.nodup_iff_pairwise_ne, List.pairwise_map]
    exact (can_nodup hI).imp fun {a b} h e => h (by
      have h2 : turnE (turnE a) = turnE (turnE b) := congrArg turnE e
      exact h2)
  have h1 : ∀ {l : List Ed}, (∀ e ∈ l, InE e) → ∀ e, e ∈ canR (l.map turnE) → turnE e ∈ canR l := by
    intro l hI e he
    have ht := in_turn hI
    have hs := can_sub ht he
    obtain ⟨x, hx, rfl⟩ := List.mem_map.1 hs
    rw [show turnE (turnE x) = x from rfl]
    obtain ⟨y, hy, hk, hw⟩ := dom_can hI x hx
    have hy2 := can_sub hI hy
    have h2 := fm_least (l.map turnE) ht (key (turnE x))
    rw [(mem_can ht _).1 he] at h2
    have h3 := h2.2 (turnE y) (List.mem_map.2 ⟨y, hy2, rfl⟩) (by simp [key, turnE] at hk ⊢; exact ⟨hk.2, hk.1⟩)
    have h4 : (turnE x).2.2 = x.2.2 := rfl
    have h5 : (turnE y).2.2 = y.2.2 := rfl
    have : y = x := by
      have a1 := congrArg Prod.fst hk
      have a2 := congrArg Prod.snd hk
      simp [key] at a1 a2
      exact Prod.ext a1 (Prod.ext a2 (by omega))
    rw [← this]; exact hy
  refine (List.perm_ext_iff_of_nodup (can_nodup ht) hn).2 fun e => ⟨fun he => ?_, fun he => ?_⟩
  · exact List.mem_map.2 ⟨turnE e, h1 hI e he, rfl⟩
  · obtain ⟨x, hx, rfl⟩ := List.mem_map.1 he
    have := h1 ht (turnE (turnE x)) (by rw [turn_turn]; exact hx)
    exact this
theorem cnts_turn {l : List Ed} (hI : ∀ e ∈ l, InE e) (n : Int) : cntsR fromE n (canR (l.map turnE)) = cntsR intoE n (canR l) := by
  unfold cntsR
  have h : ∀ v, hit fromE (canR (l.map turnE)) v = hit intoE (canR l) v := by
    intro v
    unfold hit
    rw [((turn_perm hI).filter _).length_eq, List.filter_map, List.length_map]
    rfl
  have : cnts fromE n (canR (l.map turnE)) = cnts intoE n (canR l) := by
    unfold cnts
    exact List.map_congr_left fun v _ => by rw [h]
  rw [this]
end Go.Proofs.Ytfaddlpemhifpaa
