/- Lists of edges, as mathematics: what is combined, and in which order. No program is named here. -/
import Derived.Test.YtfaddlpemhifpaaRingMath
namespace Go.Proofs.Ytfaddlpemhifpaa
set_option linter.unusedVariables false
set_option linter.unusedSimpArgs false
abbrev Ky := Int × Int
def key (e : Int × Int × Int) : Ky := (e.1, e.2.1)
def klt (a b : Ky) : Bool := decide (a.1 < b.1 ∨ a.1 = b.1 ∧ a.2 < b.2)
theorem klt_irr (a : Ky) : klt a a = false := by simp [klt]
theorem klt_trans {a b c : Ky} (h1 : klt a b = true) (h2 : klt b c = true) : klt a c = true := by simp [klt] at *; omega
theorem klt_tri {a b : Ky} (h1 : klt a b = false) (h2 : klt b a = false) : a = b := by
  simp [klt] at *
  refine Prod.ext ?_ ?_ <;> omega
theorem klt_ne {a b : Ky} (h : klt a b = true) : a ≠ b := by rintro rfl; rw [klt_irr] at h; cases h
theorem klt_asym {a b : Ky} (h : klt a b = true) : klt b a = false := by simp [klt] at *; omega
def toE (p : Ky × Int) : Int × Int × Int := (p.1.1, p.1.2, nv p.2)
def upd (r : Int) (f : Ky → Option Int) (e : Int × Int × Int) : Ky → Option Int := fun k => if k = key e then some (match f (key e) with | some s => addR r s e.2.2 | none => e.2.2) else f k
def fm (r : Int) (l : List (Int × Int × Int)) : Ky → Option Int := l.foldl (upd r) (fun _ => none)
theorem fm_snoc (r : Int) (l : List (Int × Int × Int)) (e : Int × Int × Int) : fm r (l ++ [e]) = upd r (fm r l) e := by simp [fm]
def ins (r : Int) : List (Ky × Int) → (Int × Int × Int) → List (Ky × Int)
  | [], e => [(key e, e.2.2)]
  | p :: S, e => if klt p.1 (key e) = true then p :: ins r S e else if klt (key e) p.1 = true then (key e, e.2.2) :: p :: S else (p.1, addR r p.2 e.2.2) :: S
def canS (r : Int) (l : List (Int × Int × Int)) : List (Ky × Int) := l.foldl (ins r) []
theorem canS_snoc (r : Int) (l : List (Int × Int × Int)) (e : Int × Int × Int) : canS r (l ++ [e]) = ins r (canS r l) e := by simp [canS]
def Rep (S : List (Ky × Int)) (f : Ky → Option Int) : Prop := S.Pairwise (fun p q => klt p.1 q.1 = true) ∧ ∀ k z, (k, z) ∈ S ↔ f k = some z
theorem Rep.nil : Rep [] (fun _ => none) := ⟨List.Pairwise.nil, by simp⟩
theorem ins_mem (r : Int) (e : Int × Int × Int) : ∀ (S : List (Ky × Int)) (q : Ky × Int), q ∈ ins r S e → q.1 = key e ∨ q ∈ S
  | [], q, h => by simp [ins] at h; subst h; exact .inl rfl
  | p :: S, q, h => by
    unfold ins at h
    split at h
    · rcases List.mem_cons.1 h with rfl | h
      · exact .inr (by simp)
      · rcases ins_mem r e S q h with h | h
        · exact .inl h
        · exact .inr (by simp [h])
    · split at h
      · rcases List.mem_cons.1 h with rfl | h
        · exact .inl rfl
        · exact .inr h
      · rename_i h1 h2
        rcases List.mem_cons.1 h with rfl | h
        · exact .inl (klt_tri (by simpa using h1) (by simpa using h2))
        · exact .inr (by simp [h])
theorem ins_sorted (r : Int) (e : Int × Int × Int) : ∀ (S : List (Ky × Int)), S.Pairwise (fun p q => klt p.1 q.1 = true) → (ins r S e).Pairwise (fun p q => klt p.1 q.1 = true)
  | [], _ => by simp [ins]
  | p :: S, h => by
    obtain ⟨h1, h2⟩ := List.pairwise_cons.1 h
    unfold ins
    split
    · rename_i hp
      refine List.pairwise_cons.2 ⟨fun q hq => ?_, ins_sorted r e S h2⟩
      rcases ins_mem r e S q hq with h | h
      · rw [h]; exact hp
      · exact h1 q h
    · split
      · rename_i hp
        refine List.pairwise_cons.2 ⟨fun q hq => ?_, h⟩
        rcases List.mem_cons.1 hq with rfl | hq
        · exact hp
        · exact klt_trans hp (h1 q hq)
      · exact List.pairwise_cons.2 ⟨h1, h2⟩
theorem ins_at (r : Int) (e : Int × Int × Int) : ∀ (S : List (Ky × Int)) (f : Ky → Option Int), Rep S f → Rep (ins r S e) (upd r f e)
  | S, f, h => ⟨ins_sorted r e S h.1, by
    intro k z
    have hmem : ∀ (S : List (Ky × Int)), S.Pairwise (fun p q => klt p.1 q.1 = true) → ((k, z) ∈ ins r S e ↔ if k = key e then (∃ s, (k, s) ∈ S ∧ z = addR r s e.2.2) ∨ ((∀ s, (k, s) ∉ S) ∧ z = e.2.2) else (k, z) ∈ S) := by
      intro S
      induction S with
      | nil => intro _; simp [ins, key]
      | cons p S ih =>
        intro hs
        obtain ⟨h1, h2⟩ := List.pairwise_cons.1 hs
        unfold ins
        split
        · rename_i hp
          rw [List.mem_cons, ih h2]
          by_cases hk : k = key e
          · have hne : ∀ s, (k, s) ≠ p := fun s hs => klt_ne hp (by rw [← hs]; exact hk)
            simp [hk]
            rw [← hk]
            simp [hne]
          · simp [hk]
        · split
          · rename_i hp0 hp
            have hno : ∀ s, (key e, s) ∉ p :: S := by
              intro s hs
              rcases List.mem_cons.1 hs with rfl | hs
              · rw [klt_irr] at hp; cases hp
              · have := klt_trans hp (h1 _ hs)
                rw [klt_irr] at this; cases this
            by_cases hk : k = key e
            · subst hk
              rw [List.mem_cons]
              simp only [if_true]
              constructor
              · rintro (h | h)
                · exact .inr ⟨hno, by cases h; rfl⟩
                · exact absurd h (hno _)
              · rintro (⟨s, h, _⟩ | ⟨_, rfl⟩)
                · exact absurd h (hno _)
                · exact .inl rfl
            · rw [List.mem_cons, if_neg hk]
              constructor
              · rintro (h | h)
                · cases h; exact absurd rfl hk
                · exact h
              · exact .inr
          · rename_i hp0 hp
            have he : p.1 = key e := klt_tri (by simpa using hp0) (by simpa using hp)
            have hno : ∀ s, (key e, s) ∉ S := by
              intro s hs
              have := h1 _ hs
              rw [he, klt_irr] at this; cases this
            by_cases hk : k = key e
            · subst hk
              simp only [if_true]
              rw [List.mem_cons]
              constructor
              · rintro (h | h)
                · exact .inl ⟨p.2, by rw [← he]; simp, by have := congrArg Prod.snd h; exact this⟩
                · exact absurd h (hno _)
              · rintro (⟨s, h, rfl⟩ | ⟨h, _⟩)
                · rcases List.mem_cons.1 h with h | h
                  · left
                    rw [← h]
                  · exact absurd h (hno _)
                · exact absurd (show (key e, p.2) ∈ p :: S by rw [← he]; simp) (h _)
            · rw [List.mem_cons, if_neg hk, List.mem_cons]
              constructor
              · rintro (h | h)
                · exact absurd (by rw [← he]; exact congrArg Prod.fst h) hk
                · exact .inr h
              · rintro (h | h)
                · exact absurd (by rw [← he, ← h]) hk
                · exact .inr h
    rw [hmem S h.1]
    unfold upd
    by_cases hk : k = key e
    · subst hk
      simp only [if_true]
      cases hf : f (key e) with
      | none =>
        have hno : ∀ s, (key e, s) ∉ S := fun s hs => by rw [h.2, hf] at hs; cases hs
        simp [hno, eq_comm]
      | some s =>
        have hs := (h.2 (key e) s).2 hf
        simp only [Option.some.injEq]
        constructor
        · rintro (⟨s', h', rfl⟩ | ⟨h', _⟩)
          · rw [h.2, hf] at h'; cases h'; rfl
          · exact absurd hs (h' _)
        · rintro rfl
          exact .inl ⟨s, hs, rfl⟩
    · simp [hk, h.2]⟩
theorem rep_can (r : Int) (l : List (Int × Int × Int)) : Rep (canS r l) (fm r l) := by
  have : ∀ (l : List (Int × Int × Int)) (S : List (Ky × Int)) (f : Ky → Option Int), Rep S f → Rep (l.foldl (ins r) S) (l.foldl (upd r) f) := by
    intro l
    induction l with
    | nil => intro S f h; exact h
    | cons e l ih => intro S f h; exact ih _ _ (ins_at r e S f h)
  exact this l [] _ Rep.nil
theorem Rep.nodup {S : List (Ky × Int)} {f : Ky → Option Int} (h : Rep S f) : S.Nodup := h.1.imp fun {a b} h e => by rw [e, klt_irr] at h; cases h
theorem Rep.perm {S T : List (Ky × Int)} {f : Ky → Option Int} (h : Rep S f) (hT : (T.map (·.1)).Nodup) (h1 : ∀ p ∈ T, f p.1 = some p.2) (h2 : ∀ k z, f k = some z → (k, z) ∈ T) : T.Perm S := by
  have hTn : T.Nodup := by
    have := List.pairwise_map.1 hT
    exact this.imp fun {a b} h e => h (by rw [e])
  refine (List.perm_ext_iff_of_nodup hTn h.nodup).2 fun p => ⟨fun hp => (h.2 p.1 p.2).2 (h1 p hp), fun hp => h2 p.1 p.2 ((h.2 p.1 p.2).1 hp)⟩
theorem Rep.uniq {S T : List (Ky × Int)} {f : Ky → Option Int} (h : Rep S f) (h' : Rep T f) : S = T := by
  have hp : S.Perm T := (List.perm_ext_iff_of_nodup h.nodup h'.nodup).2 fun p => by rw [show p = (p.1, p.2) from rfl, h.2, h'.2]
  refine hp.eq_of_pairwise (le := fun p q => klt p.1 q.1 = true) (fun a b _ _ h1 h2 => ?_) h.1 h'.1
  rw [klt_asym h1] at h2; cases h2
theorem ins_last (r : Int) (e : Int × Int × Int) : ∀ (S : List (Ky × Int)), (∀ p ∈ S, klt p.1 (key e) = true) → ins r S e = S ++ [(key e, e.2.2)]
  | [], _ => rfl
  | p :: S, h => by
    unfold ins
    rw [if_pos (h p (by simp)), ins_last r e S (fun q hq => h q (by simp [hq]))]
    rfl
/-- Edges that rise are combined already. -/
theorem canS_rising (r : Int) : ∀ (l : List (Int × Int × Int)), l.Pairwise (fun a b => klt (key a) (key b) = true) → canS r l = l.map (fun e => (key e, e.2.2)) := by
  intro l
  have : ∀ (m l : List (Int × Int × Int)), (l ++ m).Pairwise (fun a b => klt (key a) (key b) = true) → m.foldl (ins r) (l.map (fun e => (key e, e.2.2))) = (l ++ m).map (fun e => (key e, e.2.2)) := by
    intro m
    induction m with
    | nil => intro l _; simp
    | cons e m ih =>
      intro l h
      rw [List.foldl_cons, ins_last]
      · have := ih (l ++ [e]) (by simpa using h)
        simpa using this
      · intro p hp
        obtain ⟨a, ha, rfl⟩ := List.mem_map.1 hp
        exact (List.pairwise_append.1 h).2.2 a ha e (by simp)
  intro h
  have := this l [] h
  simpa [canS] using this
theorem fm_some {r : Int} : ∀ {l : List (Int × Int × Int)} {k : Ky} {z : Int}, fm r l k = some z → ∃ e ∈ l, key e = k := by
  intro l
  have : ∀ (l : List (Int × Int × Int)) (f : Ky → Option Int) (k : Ky) (z : Int), l.foldl (upd r) f k = some z → (∃ e ∈ l, key e = k) ∨ ∃ z, f k = some z := by
    intro l
    induction l with
    | nil => intro f k z h; exact .inr ⟨z, h⟩
    | cons e l ih =>
      intro f k z h
      rcases ih _ _ _ h with ⟨e', h1, h2⟩ | ⟨z', h2⟩
      · exact .inl ⟨e', by simp [h1], h2⟩
      · unfold upd at h2
        split at h2
        · rename_i hk
          exact .inl ⟨e, by simp, hk.symm⟩
        · exact .inr ⟨z', h2⟩
  intro k z h
  rcases this l _ k z h with h | ⟨z, h⟩
  · exact h
  · cases h
def combR (r : Int) (l : List (Int × Int × Int)) : List (Int × Int × Int) × Int := if isR r = true then (if (canS r l).all (fun p => nb p.2) = true then ((canS r l).map toE, 0) else ([], 12)) else ([], 8)
theorem combR_over {r : Int} {l : List (Int × Int × Int)} (h : isR r = true) {k : Ky} {z : Int} (hk : fm r l k = some z) (hz : nb z = false) : combR r l = ([], 12) := by
  have hm := ((rep_can r l).2 k z).2 hk
  have : ¬ (canS r l).all (fun p => nb p.2) = true := by
    intro ha
    have := List.all_eq_true.1 ha _ hm
    rw [hz] at this; cases this
  simp only [combR, if_pos h, if_neg this]
/-- Whatever stands in order and is what was combined, shuffled, is what was combined. -/
theorem sorted_is (r : Int) (l l' : List (Int × Int × Int)) (T : List (Ky × Int)) (hT : T.Perm (canS r l)) (hp : l'.Perm (T.map toE)) (hs : l'.Pairwise (fun a b => klt (key b) (key a) = false)) : l' = (canS r l).map toE := by
  have hp2 : l'.Perm ((canS r l).map toE) := hp.trans (hT.map toE)
  have hc := (rep_can r l).1
  have hs2 : ((canS r l).map toE).Pairwise (fun a b => klt (key b) (key a) = false) := by
    rw [List.pairwise_map]
    exact hc.imp fun {a b} h => klt_asym h
  have hn : ((canS r l).map toE).Pairwise (fun a b => key a ≠ key b) := by
    rw [List.pairwise_map]
    exact hc.imp fun {a b} h => klt_ne h
  refine hp2.eq_of_pairwise (le := fun a b => klt (key b) (key a) = false) (fun a b ha hb h1 h2 => ?_) hs hs2
  have hk : key a = key b := klt_tri h2 h1
  have ha' := hp2.mem_iff.1 ha
  have hb' := hb
  obtain ⟨i, hi, rfl⟩ := List.mem_iff_getElem.1 ha'
  obtain ⟨j, hj, rfl⟩ := List.mem_iff_getElem.1 hb'
  have hpw := List.pairwise_iff_getElem.1 hn
  rcases Nat.lt_trichotomy i j with h | h | h
  · exact absurd hk (hpw i j hi hj h)
  · subst h; rfl
  · exact absurd hk.symm (hpw j i hj hi h)
theorem combR_all {r : Int} {l : List (Int × Int × Int)} (h : isR r = true) (ha : ∀ k z, fm r l k = some z → nb z = true) : combR r l = ((canS r l).map toE, 0) := by
  have : (canS r l).all (fun p => nb p.2) = true := List.all_eq_true.2 fun p hp => ha p.1 p.2 (((rep_can r l).2 p.1 p.2).1 hp)
  simp only [combR, if_pos h, if_pos this]
end Go.Proofs.Ytfaddlpemhifpaa
