/- Texts of a claim, joined. -/
import Derived.Test.YtmiaonncbefmmaaDoorZT10
import Derived.Test.YtmiaonncbefmmaaDoorZT5
import Derived.Test.YtmiaonncbefmmaaDoorZT7
import Derived.Test.YtmiaonncbefmmaaDoorZT8
import Derived.Test.YtmiaonncbefmmaaDoorZT9
set_option linter.unusedVariables false
set_option linter.unusedSimpArgs false
section
namespace Go.Proofs.YtmiaonncbefmmaaDoor
namespace Ev
open Go
set_option linter.unusedVariables false
set_option linter.unusedSimpArgs false
theorem getI_vecG {n p : Nat} (g : Nat → Option Int) (h : p < n) : getI (p : Int) (vecG n g) = g p := getI_gath 0 n g p (by omega) (by omega)
theorem vecG_congr {n : Nat} {f g : Nat → Option Int} (h : ∀ p, p < n → f p = g p) : vecG n f = vecG n g := gathR_congr fun p _ hp => h p (by omega)
theorem nilD_dv : DV ((0, nilS, nilS) : Dn) 0 fun _ => none :=
 ⟨rfl, by omega, ok_nil, fun x hx => by simp [nilS] at hx, rfl, ok_nil, rfl, fun p => rfl, fun p _ => rfl, fun p x h => by simp at h⟩
theorem devec_sure_eq {d : Dn} (h : OkD d) : devec_sure d = some (sureD d) := by
 have e := devec_Right_eq h
 obtain ⟨n, s, t⟩ := d
 unfold devec_sure sureD
 simp only [e, Option.bind_some]
 split <;> rfl
theorem DV.back {d : Dn} {n : Nat} {f : Nat → Option Int} (h : DV d n f) : backL d.2.1.l d.2.2.l = vecG n f := by
 have h1 := right_gath (back_right h.right)
 rw [mo_l, h.num, Int.toNat_natCast] at h1
 rw [h1]
 exact vecG_congr fun p hp => by rw [back_get, h.den, if_pos (by omega), Int.toNat_natCast]
theorem flags_Has_any {s : Sl Int} (hok : okS 1 s) (hu : u64s s.l) (hl : s.l.length ≤ 15000) {p : Int} (hp : i64r p) : flags_Has s p = some (decide (0 ≤ p) && hasB s.l p.toNat) := by
 by_cases h0 : 0 ≤ p
 ·obtain ⟨k, rfl⟩ := Int.eq_ofNat_of_zero_le h0
  rw [decide_eq_true h0, Bool.true_and, Int.toNat_natCast]
  by_cases hk : k < 1000000
  ·exact flags_Has_eq s k hok hu hk
  ·have hw : flags_within s (k : Int) = some false := by
    unfold flags_within divO
    have e1 : ((k : Nat) : Int).tdiv 64 = ((k / 64 : Nat) : Int) := by rw [Int.tdiv_eq_ediv_of_nonneg (by omega)]; rfl
    have := hp.2
    rw [if_pos (by omega), if_pos (by decide), e1, wrap64 (by omega) (by omega)]
    simp only [Option.bind_some]
    rw [if_neg (by omega)]
   unfold flags_Has
   rw [hw, hasB_out (by omega)]; rfl
 ·unfold flags_Has flags_within
  rw [if_neg (by omega), decide_eq_false h0]; rfl
theorem words_len {d : Dn} {n : Nat} {f : Nat → Option Int} (h : DV d n f) : d.2.1.l.length ≤ 64 := by have := h.len; have := h.le; omega
theorem DV.has_eq {d : Dn} {n : Nat} {f : Nat → Option Int} (h : DV d n f) {p : Int} (hp : i64r p) : flags_Has d.2.1 p = some (decide (0 ≤ p) && (f p.toNat).isSome) := by
 rw [flags_Has_any h.has h.bits (by have := words_len h; omega) hp, h.at_]
theorem DV.val_at {d : Dn} {n : Nat} {f : Nat → Option Int} (h : DV d n f) {k : Nat} (hk : k < n) : atS 1 d.2.2 (k : Int) = some ((f k).getD 0) := at_s h.vals (by rw [h.vl, tabM_get _ hk])
theorem DV.vlen {d : Dn} {n : Nat} {f : Nat → Option Int} (h : DV d n f) : d.2.2.l.length = n := by rw [h.vl, tabM_len]
theorem devec_Back_dv {d : Dn} (h : OkD d) {n : Nat} {f : Nat → Option Int} (hd : DV (sureD d) n f) : devec_Back d = some ((n : Int), mo 2 (vecG n f)) := by
 have e := devec_sure_eq h
 obtain ⟨n1, s1, t1⟩ := d
 unfold devec_Back
 simp only [e, Option.bind_some]
 generalize sureD (n1, s1, t1) = u at hd
 obtain ⟨m, s, t⟩ := u
 have hle := hd.le
 have hvl := hd.vlen
 have hnum := hd.num
 simp only at hvl hnum
 obtain ⟨q, q1, q2⟩ := loop_up (b := devec_Back_b1 s t) n (fun j a => a = ((j : Int), gathR 0 j f)) (fun q => q = .inl (vecG n f))
  (by
   rintro j _ hj rfl
   have ha := hd.val_at hj
   have hh := hd.has_eq (p := (j : Int)) (by unfold i64r; omega)
   simp only [Int.toNat_natCast] at ha hh
   have hlen := gathR_len 0 j f
   simp only [devec_Back_b1, ha, hh, Option.bind_some, w_succ hj (by omega)]
   rw [if_pos (by omega), gathR_last, Nat.zero_add, decide_eq_true (show (0 : Int) ≤ (j : Int) by omega), Bool.true_and]
   cases hf : f j with
   | none => exact .inl ⟨_, rfl, by simp⟩
   | some x =>
    have hap : app (gathR 0 j f) [((j : Int), x)] = some (gathR 0 j f ++ [((j : Int), x)]) := app_ok (by simp; unfold bound; omega)
    simp only [Option.isSome_some, if_true, Option.getD_some, hap, Option.bind_some]
    exact .inl ⟨_, rfl, rfl⟩)
  (by
   rintro _ rfl
   exact ⟨_, if_neg (by omega), rfl⟩) 0 (Nat.zero_le _) (0, []) rfl
 rw [q1, q2, hnum]; rfl
theorem flags_New_eq {n : Nat} (h : n ≤ 4096) : flags_New (n : Int) = some (List.replicate ((n + 63) / 64) 0) := by
 unfold flags_New
 have e : (((n : Int) + 63) / 64).toNat = (n + 63) / 64 := by omega
 have hlo : lenOk (((n : Int) + 63) / 64) = some () := by unfold lenOk bound; rw [if_pos ⟨by omega, by omega⟩]
 simp only [flags_words_eq (n := (n : Int)) ⟨by omega, by omega⟩, hlo, Option.bind_some, e]
theorem flags_bit_eq (p : Nat) : flags_bit (p : Int) = some ((2 ^ (p % 64) : Nat) : Int) := by
 unfold flags_bit
 simp only [mod64n, Option.bind_some, shl_one]
theorem put_bits {ws : List Int} {p : Nat} (hu : u64s ws) (hp : p / 64 < ws.length) : ∃ w, atL ws ((p / 64 : Nat) : Int) = some w ∧ (ws.set (p / 64) (orI .u64 w ((2 ^ (p % 64) : Nat) : Int))).length = ws.length ∧ u64s (ws.set (p / 64) (orI .u64 w ((2 ^ (p % 64) : Nat) : Int))) ∧ ∀ i, hasB (ws.set (p / 64) (orI .u64 w ((2 ^ (p % 64) : Nat) : Int))) i = (hasB ws i || decide (i = p)) := by
 have hw := hu _ (List.getElem_mem hp)
 have hat := atL_get hp
 obtain ⟨w, hw2⟩ := Int.eq_ofNat_of_zero_le hw.1
 rw [hw2] at hw hat
 have hwlt : w < 18446744073709551616 := by have := hw.2; omega
 have hk : p % 64 < 64 := Nat.mod_lt _ (by decide)
 have hpow := pow_lt hk
 have hor := or_nat hwlt hpow
 have horl : w ||| 2 ^ (p % 64) < 2 ^ 64 := Nat.or_lt_two_pow (by omega) (by omega)
 refine ⟨(w : Int), hat, by simp, fun x hx => ?_, fun i => ?_⟩
 ·rcases List.mem_or_eq_of_mem_set hx with hx | rfl
  ·exact hu x hx
  ·rw [hor]; unfold u64r; omega
 ·rw [hor]
  by_cases e : i / 64 = p / 64
  ·rw [hasB_word (ws := ws.set _ _) e rfl (by rw [List.getElem?_set, if_pos rfl, if_pos hp]), hasB_word e rfl (by rw [List.getElem?_eq_getElem hp, hw2])]
   simp only [Int.toNat_natCast]
   rw [Nat.testBit_or, Nat.testBit_two_pow]
   congr 1
   by_cases e2 : i = p
   ·subst e2; simp
   ·rw [decide_eq_false e2, decide_eq_false (by omega)]
  ·have hne : (ws.set (p / 64) ((w ||| 2 ^ (p % 64) : Nat) : Int))[i / 64]? = ws[i / 64]? := by rw [List.getElem?_set, if_neg (Ne.symm e)]
   have e2 : i ≠ p := fun h => e (by rw [h])
   rw [decide_eq_false e2, Bool.or_false]
   unfold hasB
   rw [hne]
theorem flags_Of_eq {n : Nat} (hn : n ≤ 4096) {s : Sl Int} (hs : okS 1 s) (hl : s.l.length ≤ 9223372036854775807) : ∃ q, flags_Of (n : Int) s = some q ∧ q.length = (n + 63) / 64 ∧ u64s q ∧ ∀ i, hasB q i = (decide (i < n) && decide ((i : Int) ∈ s.l)) := by
 unfold flags_Of
 rw [flags_New_eq hn]
 simp only [Option.bind_some]
 obtain ⟨q, q1, w, rfl, w1, w2, w3⟩ := loop_up (b := flags_Of_b1 (n : Int) s) s.l.length (fun j st => ∃ w : List Int, st = (w, (j : Int)) ∧ w.length = (n + 63) / 64 ∧ u64s w ∧ ∀ i, hasB w i = (decide (i < n) && decide ((i : Int) ∈ s.l.take j))) (fun q => ∃ w : List Int, q = .inl w ∧ w.length = (n + 63) / 64 ∧ u64s w ∧ ∀ i, hasB w i = (decide (i < n) && decide ((i : Int) ∈ s.l)))
  (by
   rintro j _ hj ⟨w, rfl, g1, g2, g3⟩
   have ej := at_get hs hj
   have htk : s.l.take (j + 1) = s.l.take j ++ [s.l[j]] := by rw [List.take_succ_eq_append_getElem hj]
   rw [htk]
   generalize s.l[j] = x at ej
   simp only [flags_Of_b1, ej, Option.bind_some, w_succ hj hl]
   rw [if_pos (by omega)]
   have same : ¬ (0 ≤ x ∧ x < (n : Int)) → ∀ i, hasB w i = (decide (i < n) && decide ((i : Int) ∈ s.l.take j ++ [x])) := fun h i => by
    rw [g3 i]
    by_cases hi : i < n
    ·rw [decide_eq_true hi]
     simp only [Bool.true_and]
     congr 1
     simp only [List.mem_append, List.mem_cons, List.not_mem_nil, or_false, eq_iff_iff]
     exact ⟨.inl, fun h1 => h1.resolve_right fun e => h (by omega)⟩
    ·rw [decide_eq_false hi]; rfl
   by_cases c1 : x ≥ 0
   ·rw [if_pos c1]
    by_cases c2 : x < (n : Int)
    ·rw [if_pos c2, if_pos (by omega)]
     obtain ⟨p, rfl⟩ := Int.eq_ofNat_of_zero_le c1
     obtain ⟨v, v1, v2, v3, v4⟩ := put_bits (p := p) g2 (by omega)
     simp only [div64n (j := p) (by omega), v1, flags_bit_eq, Option.bind_some, Int.toNat_natCast]
     refine .inl ⟨_, rfl, _, rfl, by rw [v2]; exact g1, v3, fun i => ?_⟩
     rw [v4 i, g3 i]
     by_cases hi : i < n
     ·rw [decide_eq_true hi]
      simp only [Bool.true_and, List.mem_append, List.mem_cons, List.not_mem_nil, or_false, Bool.decide_or]
      congr 1
      by_cases e : i = p
      ·subst e; simp
      ·rw [decide_eq_false e, decide_eq_false (by omega)]
     ·rw [decide_eq_false hi, decide_eq_false (show ¬ i = p by omega)]; rfl
    ·rw [if_neg c2]
     exact .inl ⟨_, rfl, w, rfl, g1, g2, same (by omega)⟩
   ·rw [if_neg c1]
    exact .inl ⟨_, rfl, w, rfl, g1, g2, same (by omega)⟩)
  (by
   rintro _ ⟨w, rfl, g1, g2, g3⟩
   rw [List.take_length] at g3
   refine ⟨.inl w, ?_, w, rfl, g1, g2, g3⟩
   simp only [flags_Of_b1]
   rw [if_neg (by omega)]) 0 (Nat.zero_le _) (List.replicate ((n + 63) / 64) 0, 0) ⟨_, rfl, by simp, fun x hx => by rw [List.eq_of_mem_replicate hx]; unfold u64r; omega, fun i => by rw [has_zero]; simp⟩
 exact ⟨w, by rw [q1]; rfl, w1, w2, w3⟩
theorem spvec_sure_eq (v : Int × Sl It) (hok : okS 2 v.2) (hl : v.2.l.length ≤ 9223372036854775807) : spvec_sure v = some (sureV v) := by
 have e := spvec_Right_eq v hok hl
 obtain ⟨n, s⟩ := v
 unfold spvec_sure sureV
 simp only [e, Option.bind_some]
 split <;> rfl
theorem spvec_Places_eq {v : Int × Sl It} (hok : okS 2 v.2) (hl : v.2.l.length ≤ 9223372036854775807) : spvec_Places v = some ((sureV v).2.l.map (·.1)) := by
 have e := spvec_sure_eq v hok hl
 have k1 := sure_len v
 have k2 := sureV_ok hok
 obtain ⟨n, s⟩ := v
 unfold spvec_Places
 simp only [e, Option.bind_some]
 generalize sureV (n, s) = u at k1 k2
 obtain ⟨m, t⟩ := u
 simp only at k1 k2 ⊢
 obtain ⟨q, q1, q2⟩ := loop_up (b := spvec_Places_b1 t) t.l.length (fun j a => a = ((t.l.take j).map (·.1), (j : Int))) (fun q => q = .inl (t.l.map (·.1)))
  (by
   rintro j _ hj rfl
   have ej := at_get k2 hj
   have ap : app ((t.l.take j).map (·.1)) [t.l[j].1] = some ((t.l.take j).map (·.1) ++ [t.l[j].1]) := app_ok (by simp; unfold bound; omega)
   simp only [spvec_Places_b1, ej, ap, Option.bind_some, w_succ hj (by omega)]
   rw [if_pos (by omega)]
   exact .inl ⟨_, rfl, by rw [List.take_succ_eq_append_getElem hj, List.map_append]; rfl⟩)
  (by
   rintro _ rfl
   exact ⟨_, if_neg (by omega), by rw [List.take_length]⟩) 0 (Nat.zero_le _) ([], 0) rfl
 rw [q1, q2]; rfl
theorem places_bit {k : Nat} {t : Sl It} (h : rightB ((k : Int), t) = true) (p : Nat) : (decide (p < k) && decide ((p : Int) ∈ t.l.map (·.1))) = (getI (p : Int) t.l).isSome := by
 cases hg : getI (p : Int) t.l with
 | none =>
  rw [decide_eq_false (p := (p : Int) ∈ t.l.map (·.1)) (fun hm => by obtain ⟨y, hy⟩ := mem_places.1 hm; rw [hg] at hy; simp at hy)]; simp
 | some y =>
  have := rightI h hg
  rw [decide_eq_true (mem_places.2 ⟨y, hg⟩), decide_eq_true (show p < k by omega)]; rfl
theorem of_loop {n : Nat} {t : Sl It} (h : rightB ((n : Int), t) = true) (hok : okS 2 t) : loopO (devec_Of_b5 t) (0, List.replicate n 0) = some (.inl (tabM n fun p => (getI (p : Int) t.l).getD 0)) := by
 have hlen := right_len h
 simp only at hlen
 rw [tabM_zero]
 obtain ⟨q, q1, q2⟩ := loop_up (b := devec_Of_b5 t) t.l.length (fun j st => st = ((j : Int), tabM n fun p => (getI (p : Int) (t.l.take j)).getD 0)) (fun q => q = .inl (tabM n fun p => (getI (p : Int) t.l).getD 0))
  (by
   rintro j _ hj rfl
   have ej := at_get hok hj
   have hx := right_at h hj
   have htk := getI_take h hj
   rw [List.take_succ_eq_append_getElem hj]
   generalize t.l[j] = x at ej hx htk
   obtain ⟨x1, x2⟩ := x
   simp only at hx htk
   obtain ⟨p, rfl⟩ := Int.eq_ofNat_of_zero_le hx.1
   have hat : atL (tabM n fun p => (getI (p : Int) (t.l.take j)).getD 0) (p : Int) = some ((getI (p : Int) (t.l.take j)).getD 0) := by
    unfold atL; rw [if_pos (by omega), Int.toNat_natCast, tabM_get _ (by omega)]
   simp only [devec_Of_b5, ej, Option.bind_some, hat, Int.toNat_natCast, w_succ hj (by omega)]
   rw [if_pos (by omega), tabM_set _ _ (by omega)]
   refine .inl ⟨_, rfl, ?_⟩
   simp only [Prod.mk.injEq, true_and]
   refine tabM_congr fun i hi => ?_
   rw [getI_append]
   by_cases e : i = p
   ·subst e; rw [if_pos rfl, htk]; simp [getI]
   ·rw [if_neg e]
    have : getI (i : Int) [((p : Int), x2)] = none := by unfold getI; rw [if_neg (by omega)]; rfl
    rw [this]
    cases getI (i : Int) (t.l.take j) <;> rfl)
  (by
   rintro _ rfl
   refine ⟨_, ?_, rfl⟩
   simp only [devec_Of_b5]
   rw [if_neg (by omega), List.take_length]) 0 (Nat.zero_le _) (0, tabM n fun _ => 0) rfl
 rw [q1, q2]
theorem devec_Of_any {v : Int × Sl It} (hok : okS 2 v.2) (hl : v.2.l.length ≤ 9223372036854775807) (hi : ∀ x ∈ v.2.l, i64r x.2) : ∃ d : Dn, devec_Of v = some d ∧ DV d (sureV v).1.toNat fun p => getI (p : Int) (sureV v).2.l := by
 have e1 := spvec_Right_eq v hok hl
 have e2 := spvec_Places_eq hok hl
 by_cases hr : rightB v = true
 ·have es : sureV v = v := sure_id hr
  rw [es] at e2 ⊢
  have hz := right_size hr
  obtain ⟨m, t⟩ := v
  simp only at hz hok hl e2 hi ⊢
  obtain ⟨n, rfl⟩ := Int.eq_ofNat_of_zero_le hz.1
  have hlo : lenOk (n : Int) = some () := by unfold lenOk bound; rw [if_pos ⟨by omega, by omega⟩]
  have hloop := of_loop hr hok
  have h56 : devec_Of_b6 t = devec_Of_b5 t := rfl
  have fin : ∀ (s : Sl Int), okS 1 s → s.l = t.l.map (·.1) → ∃ q, flags_Of (n : Int) s = some q ∧ DV ((n : Int), (⟨true, 1, q⟩ : Sl Int), (⟨true, 1, tabM n fun p => (getI (p : Int) t.l).getD 0⟩ : Sl Int)) n fun p => getI (p : Int) t.l := fun s hs hsl => by
   obtain ⟨q, q1, q2, q3, q4⟩ := flags_Of_eq (n := n) (by omega) hs (by rw [hsl]; simp; omega)
   refine ⟨q, q1, rfl, by omega, .inr rfl, q3, q2, .inr rfl, rfl, fun p => ?_, fun p hp => ?_, fun p x hx => hi _ (getI_in hx)⟩
   ·rw [q4 p, hsl]; exact places_bit hr p
   ·cases hg : getI (p : Int) t.l with
    | none => rfl
    | some y => have := rightI hr hg; omega
  unfold devec_Of
  simp only [e1, hr, Option.bind_some, if_true]
  rw [if_neg (by omega), if_neg (by omega), flags_New_eq (by omega)]
  simp only [hlo, Option.bind_some, e2, Int.toNat_natCast]
  cases hL : t.l.map (·.1) with
  | nil =>
   obtain ⟨q, q1, q2⟩ := fin (⟨false, 0, []⟩ : Sl Int) (.inl rfl) hL.symm
   simp only [q1, hloop, Option.bind_some, Sum.elim_inl]
   exact ⟨_, rfl, q2⟩
  | cons y z =>
   obtain ⟨q, q1, q2⟩ := fin (⟨true, 1, y :: z⟩ : Sl Int) (.inr rfl) hL.symm
   simp only [q1, h56, hloop, Option.bind_some, Sum.elim_inl]
   exact ⟨_, rfl, q2⟩
 ·have es : sureV v = (0, nilS) := by unfold sureV; rw [if_neg hr]
  rw [es]
  obtain ⟨n, s⟩ := v
  unfold devec_Of
  have hf : rightB (n, s) = false := by simpa using hr
  simp only [e1, hf, Option.bind_some, Bool.false_eq_true, if_false]
  exact ⟨_, rfl, nilD_dv.congr fun p => rfl⟩
end Ev
end Go.Proofs.YtmiaonncbefmmaaDoor
end
section
namespace Go.Proofs.YtmiaonncbefmmaaDoor
namespace Ev
open Go
set_option linter.unusedVariables false
set_option linter.unusedSimpArgs false
theorem equal_u64 {a b : Sl Int} (ha : okS 1 a) (hb : okS 1 b) (he : a.l = b.l) (hl : a.l.length ≤ 9223372036854775807) : slices_Equal_uint64_uint64 a b = some true := by
 unfold slices_Equal_uint64_uint64
 rw [if_neg (by rw [he]; simp)]
 obtain ⟨q, q1, q2⟩ := loop_up (b := slices_Equal_uint64_uint64_b1 a b) a.l.length (fun j st => st = (j : Int)) (fun q => q = .inl ())
  (by
   rintro j _ hj rfl
   have e1 := at_s ha (List.getElem?_eq_getElem hj)
   have e2 := at_s hb (k := j) (x := a.l[j]) (by rw [← he]; exact List.getElem?_eq_getElem hj)
   simp only [slices_Equal_uint64_uint64_b1, e1, e2, Option.bind_some, w_succ hj hl]
   rw [if_pos (by omega), if_neg (by simp)]
   exact .inl ⟨_, rfl, rfl⟩)
  (by
   rintro _ rfl
   exact ⟨_, if_neg (by omega), rfl⟩) 0 (Nat.zero_le _) 0 rfl
 rw [q1, q2]; rfl
theorem equal_i64 {a b : Sl Int} (ha : okS 1 a) (hb : okS 1 b) (he : a.l = b.l) (hl : a.l.length ≤ 9223372036854775807) : slices_Equal_int64_int64 a b = some true := by
 unfold slices_Equal_int64_int64
 rw [if_neg (by rw [he]; simp)]
 obtain ⟨q, q1, q2⟩ := loop_up (b := slices_Equal_int64_int64_b1 a b) a.l.length (fun j st => st = (j : Int)) (fun q => q = .inl ())
  (by
   rintro j _ hj rfl
   have e1 := at_s ha (List.getElem?_eq_getElem hj)
   have e2 := at_s hb (k := j) (x := a.l[j]) (by rw [← he]; exact List.getElem?_eq_getElem hj)
   simp only [slices_Equal_int64_int64_b1, e1, e2, Option.bind_some, w_succ hj hl]
   rw [if_pos (by omega), if_neg (by simp)]
   exact .inl ⟨_, rfl, rfl⟩)
  (by
   rintro _ rfl
   exact ⟨_, if_neg (by omega), rfl⟩) 0 (Nat.zero_le _) 0 rfl
 rw [q1, q2]; rfl
theorem DV.sure {d : Dn} {n : Nat} {f : Nat → Option Int} (h : DV d n f) : devec_sure d = some d := by rw [devec_sure_eq h.ok, sureD_id h.right]
theorem DV.sameD {d e : Dn} {n : Nat} {f g : Nat → Option Int} (h : DV d n f) (k : DV e n g) (hfg : ∀ p, p < n → f p = g p) : devec_Same d e = some true := by
 obtain ⟨e1, e2, e3⟩ := h.same k hfg
 have h1 := h.has
 have h2 := k.has
 have h3 := h.vals
 have h4 := k.vals
 have h5 := h.ok.hl
 have h6 := h.ok.vl
 have h7 := h.sure
 have h8 := k.sure
 obtain ⟨n1, s1, t1⟩ := d
 obtain ⟨n2, s2, t2⟩ := e
 simp only at e1 e2 e3 h1 h2 h3 h4 h5 h6
 unfold devec_Same
 simp only [h7, h8, Option.bind_some]
 rw [if_pos e1, equal_u64 h1 h2 e2 h5]
 simp only [Option.bind_some, if_true]
 rw [equal_i64 h3 h4 e3 h6]; rfl
theorem DV.sureD_eq {d : Dn} {n : Nat} {f : Nat → Option Int} (h : DV d n f) : DV (sureD d) n f := by rw [sureD_id h.right]; exact h
end Ev
end Go.Proofs.YtmiaonncbefmmaaDoor
end
section
namespace Go.Proofs.YtmiaonncbefmmaaDoor
namespace Ev
open Go
set_option linter.unusedVariables false
set_option linter.unusedSimpArgs false
theorem GoodV.of_dv {v : Int × Sl It} (h : GoodV v) : ∃ d : Dn, devec_Of v = some d ∧ DV d v.1.toNat fun p => getI (p : Int) v.2.l := by
 have hl := right_len h.1
 have := devec_Of_any h.2.1 (by omega) h.2.2
 rwa [sure_id h.1] at this
theorem GoodV.vec {v : Int × Sl It} (h : GoodV v) : vecG v.1.toNat (fun p => getI (p : Int) v.2.l) = v.2.l := (right_gath (n := v.1) (s := v.2) h.1).symm
end Ev
end Go.Proofs.YtmiaonncbefmmaaDoor
end
section
namespace Go.Proofs.YtmiaonncbefmmaaDoor
namespace Ev
open Go
set_option linter.unusedVariables false
set_option linter.unusedSimpArgs false
end Ev
end Go.Proofs.YtmiaonncbefmmaaDoor
end
section
namespace Go.Proofs.YtmiaonncbefmmaaDoor
namespace Ev
open Go
set_option linter.unusedVariables false
set_option linter.unusedSimpArgs false
theorem within_eq {s : Sl Int} {p : Nat} (hp : p < 1000000) : flags_within s (p : Int) = some (decide (p / 64 < s.l.length)) := by
 unfold flags_within
 rw [if_pos (by omega), div64n hp]
 simp only [Option.bind_some]
 by_cases h : p / 64 < s.l.length
 ·rw [if_pos (by omega), decide_eq_true h]
 ·rw [if_neg (by omega), decide_eq_false h]
end Ev
end Go.Proofs.YtmiaonncbefmmaaDoor
end
section
namespace Go.Proofs.YtmiaonncbefmmaaDoor
namespace Ev
open Go
set_option linter.unusedVariables false
set_option linter.unusedSimpArgs false
theorem low_bit {x : Nat} (h0 : x ≠ 0) (h : x < 18446744073709551616) : ∃ k : Nat, TZ (x : Int) = some (k : Int) ∧ k < 64 ∧ x.testBit k = true ∧ (∀ i, i < k → x.testBit i = false) ∧ andI .u64 (x : Int) (IntKind.u64.wrap ((x : Int) - 1)) = ((x &&& (x - 1) : Nat) : Int) ∧ ∀ i, (x &&& (x - 1)).testBit i = (x.testBit i && !decide (i = k)) := by
 obtain ⟨m, e1, e2⟩ := Lib.ctzFrom_spec 64 x (by omega) (by omega)
 have ec : Lib.ctz 64 x = Lib.ctzFrom 64 x := by unfold Lib.ctz; rw [if_neg h0]
 generalize hk : Lib.ctzFrom 64 x = k at e1 e2 ec
 have hpos : 0 < 2 ^ k := Nat.two_pow_pos k
 have hx : ∀ i, x.testBit i = (decide (i ≥ k) && (2 * m + 1).testBit (i - k)) := fun i => by rw [e1, Nat.testBit_two_pow_mul]
 have hx1 : x - 1 = 2 ^ k * (2 * m) + (2 ^ k - 1) := by
  rw [e1, Nat.mul_add, Nat.mul_one]; omega
 have hy : ∀ i, (x - 1).testBit i = if i < k then (2 ^ k - 1).testBit i else (2 * m).testBit (i - k) := fun i => by
  rw [hx1, Nat.testBit_two_pow_mul_add _ (by omega)]
 have odd : ∀ j, (2 * m + 1).testBit j = if j = 0 then true else m.testBit (j - 1) := fun j => by
  cases j with
  | zero => rw [if_pos rfl, Nat.testBit_zero]; simp
  | succ j => rw [if_neg (by omega), Nat.testBit_succ, show (2 * m + 1) / 2 = m by omega]; rfl
 have even : ∀ j, (2 * m).testBit j = if j = 0 then false else m.testBit (j - 1) := fun j => by
  cases j with
  | zero => rw [if_pos rfl, Nat.testBit_zero]; simp
  | succ j => rw [if_neg (by omega), Nat.testBit_succ, show (2 * m) / 2 = m by omega]; rfl
 refine ⟨k, ?_, e2, ?_, fun i hi => ?_, ?_, fun i => ?_⟩
 ·unfold TZ
  rw [if_pos (by omega), Int.toNat_natCast, ec]
 ·rw [hx, decide_eq_true (by omega), odd, if_pos (by omega)]; rfl
 ·rw [hx, decide_eq_false (by omega)]; rfl
 ·have e3 : IntKind.u64.wrap ((x : Int) - 1) = ((x - 1 : Nat) : Int) := by rw [wrap_u64]; omega
  rw [e3, and_nat h (by omega)]
 ·rw [Nat.testBit_and, hx, hy]
  rcases Nat.lt_trichotomy i k with c | c | c
  ·rw [decide_eq_false (show ¬ i ≥ k by omega)]; rfl
  ·subst c
   rw [if_neg (by omega), even, if_pos (by omega), decide_eq_true (show i = i from rfl)]; simp
  ·rw [decide_eq_true (show i ≥ k by omega), if_neg (by omega), odd, even, if_neg (by omega), if_neg (by omega), decide_eq_false (show ¬ i = k by omega)]
   cases m.testBit (i - k - 1) <;> rfl
def PartI (ws : List Int) (F T B : Nat) (l : List Int) : Prop := l.length = (T + 63) / 64 ∧ u64s l ∧ ∀ q, hasB l q = (decide (q < T) && (hasB ws (q + F) && decide (q + F < B)))
theorem part_in {ws : List Int} {F To i w : Nat} (hFT : F < To) (hTo : To ≤ 4096) (hi : i < 64) (hw : w < 18446744073709551616) (hws : ∀ k, k < 64 → hasB ws (64 * i + k) = w.testBit k) {l : List Int} (hl : PartI ws F (To - F) (64 * i) l) :
  ∃ r, loopO (flags_Part_b2 (F : Int) (To : Int) (i : Int)) ((w : Int), l) = some r ∧ ((∃ l', r = .inl l' ∧ ∃ B, To ≤ B ∧ PartI ws F (To - F) B l') ∨ ∃ l', r = .inr (.inl l') ∧ PartI ws F (To - F) (64 * (i + 1)) l') := by
 have hmax : maxI (F : Int) 0 = (F : Int) := by unfold maxI; rw [if_neg (by omega)]
 refine loop_up (b := flags_Part_b2 (F : Int) (To : Int) (i : Int)) 64 (fun j a => ∃ t w' : Nat, ∃ l : List Int, j ≤ t ∧ t ≤ 64 ∧ a = ((w' : Int), l) ∧ w' < 18446744073709551616 ∧ (∀ k, w'.testBit k = (w.testBit k && decide (t ≤ k))) ∧ PartI ws F (To - F) (64 * i + t) l) _ ?_ ?_ 0 (Nat.zero_le _) _ ⟨0, w, l, Nat.le_refl _, by omega, rfl, hw, fun k => by simp, hl⟩
 ·rintro j _ hj ⟨t, w', l, t1, t2, rfl, w1, w2, l1, l2, l3⟩
  by_cases h0 : w' = 0
  ·subst h0
   refine .inr ⟨.inr (.inl l), by unfold flags_Part_b2; simp only; rw [if_neg (by omega)], .inr ⟨l, rfl, l1, l2, fun q => ?_⟩⟩
   rw [l3 q]
   by_cases c : 64 * i + t ≤ q + F ∧ q + F < 64 * (i + 1)
   ·have e := hws (q + F - 64 * i) (by omega)
    rw [show 64 * i + (q + F - 64 * i) = q + F by omega] at e
    have e2 := w2 (q + F - 64 * i)
    rw [Nat.zero_testBit, decide_eq_true (show t ≤ q + F - 64 * i by omega), Bool.and_true] at e2
    rw [e, ← e2]; simp
   ·rw [show decide (q + F < 64 * i + t) = decide (q + F < 64 * (i + 1)) by simp only [decide_eq_decide]; omega]
  ·obtain ⟨k, k1, k2, k3, k4, k5, k6⟩ := low_bit h0 w1
   have hk3 := w2 k
   rw [k3] at hk3
   have hwk : w.testBit k = true := by cases hb : w.testBit k with | true => rfl | false => rw [hb] at hk3; simp at hk3
   have htk : t ≤ k := by
    rw [hwk] at hk3
    simpa using hk3.symm
   have hlow : ∀ k', t ≤ k' → k' < k → w.testBit k' = false := fun k' c1 c2 => by
    have := w2 k'
    rw [k4 k' c2, decide_eq_true c1, Bool.and_true] at this
    exact this.symm
   have hgap : ∀ p, 64 * i + t ≤ p → p < 64 * i + k → hasB ws p = false := fun p c1 c2 => by
    have e := hws (p - 64 * i) (by omega)
    rw [show 64 * i + (p - 64 * i) = p by omega] at e
    rw [e]; exact hlow _ (by omega) (by omega)
   have e1 : IntKind.i64.wrap ((i : Int) * 64) = ((64 * i : Nat) : Int) := by rw [wrap64 (by omega) (by omega)]; omega
   have e2 : IntKind.i64.wrap (((64 * i : Nat) : Int) + (k : Int)) = ((64 * i + k : Nat) : Int) := by rw [wrap64 (by omega) (by omega)]; omega
   have hle2 : w' &&& (w' - 1) ≤ w' := Nat.and_le_left
   have w2' : ∀ k', (w' &&& (w' - 1)).testBit k' = (w.testBit k' && decide (k + 1 ≤ k')) := fun k' => by
    rw [k6, w2]
    rcases Nat.lt_trichotomy k' k with c | c | c
    ·rw [decide_eq_false (show ¬ k + 1 ≤ k' by omega)]
     by_cases c2 : t ≤ k'
     ·rw [hlow k' c2 c]; simp
     ·rw [decide_eq_false c2]; simp
    ·subst c; simp
    ·rw [decide_eq_true (show t ≤ k' by omega), decide_eq_true (show k + 1 ≤ k' by omega), decide_eq_false (show ¬ k' = k by omega)]; simp
   unfold flags_Part_b2
   simp only [k1, Option.bind_some, e1, e2, hmax]
   rw [if_pos (by omega)]
   by_cases z1 : To ≤ 64 * i + k
   ·rw [if_pos (by omega)]
    refine .inr ⟨_, rfl, .inl ⟨l, rfl, 64 * i + k, z1, l1, l2, fun q => ?_⟩⟩
    rw [l3 q]
    by_cases c : 64 * i + t ≤ q + F ∧ q + F < 64 * i + k
    ·rw [hgap _ c.1 c.2]; simp
    ·rw [show decide (q + F < 64 * i + t) = decide (q + F < 64 * i + k) by simp only [decide_eq_decide]; omega]
   ·rw [if_neg (by omega)]
    by_cases z2 : F ≤ 64 * i + k
    ·have e3 : IntKind.i64.wrap (((64 * i + k : Nat) : Int) - (F : Int)) = ((64 * i + k - F : Nat) : Int) := by rw [wrap64 (by omega) (by omega)]; omega
     rw [if_pos (by omega), e3]
     have hin : (64 * i + k - F) / 64 < l.length := by rw [l1]; omega
     obtain ⟨v, v1, v2, v3, v4⟩ := put_bits (p := 64 * i + k - F) l2 hin
     rw [within_eq (s := ⟨true, 1, l⟩) (by omega)]
     simp only [decide_eq_true hin, Option.bind_some, if_true, div64n (j := 64 * i + k - F) (by omega), v1, flags_bit_eq, k5, Int.toNat_natCast]
     refine .inl ⟨_, rfl, k + 1, _, _, by omega, by omega, rfl, by omega, w2', by rw [v2]; exact l1, v3, fun q => ?_⟩
     rw [v4, l3 q]
     by_cases c : q = 64 * i + k - F
     ·have e := hws k k2
      rw [hwk] at e
      rw [decide_eq_true c, show q + F = 64 * i + k by omega, e, decide_eq_true (show q < To - F by omega), decide_eq_true (show 64 * i + k < 64 * i + (k + 1) by omega)]; simp
     ·rw [decide_eq_false c, Bool.or_false]
      by_cases c2 : 64 * i + t ≤ q + F ∧ q + F < 64 * i + k
      ·rw [hgap _ c2.1 c2.2]; simp
      ·rw [show decide (q + F < 64 * i + t) = decide (q + F < 64 * i + (k + 1)) by simp only [decide_eq_decide]; omega]
    ·rw [if_neg (by omega), k5]
     refine .inl ⟨_, rfl, k + 1, _, l, by omega, by omega, rfl, by omega, w2', l1, l2, fun q => ?_⟩
     rw [l3 q, show decide (q + F < 64 * i + t) = decide (q + F < 64 * i + (k + 1)) by simp only [decide_eq_decide]; omega]
 ·rintro _ ⟨t, w', l, t1, t2, rfl, w1, w2, l1, l2, l3⟩
  have h0 : w' = 0 := Nat.eq_of_testBit_eq fun k => by
   rw [w2, Nat.zero_testBit]
   by_cases hk : k < 64
   ·rw [decide_eq_false (by omega)]; simp
   ·have : w.testBit k = false := by
     cases hb : w.testBit k with
     | false => rfl
     | true => exact absurd (bit_lt hw hb) hk
    rw [this]; rfl
  subst h0
  obtain rfl : t = 64 := by omega
  exact ⟨.inr (.inl l), by unfold flags_Part_b2; simp only; rw [if_neg (by omega)], .inr ⟨l, rfl, l1, l2, l3⟩⟩
theorem flags_Part_eq {s : Sl Int} (hs : okS 1 s) (hu : u64s s.l) (hl : s.l.length ≤ 64) {F To : Nat} (hFT : F < To) (hTo : To ≤ 4096) : ∃ q, flags_Part s (F : Int) (To : Int) = some q ∧ q.length = (To - F + 63) / 64 ∧ u64s q ∧ ∀ i, hasB q i = (decide (i < To - F) && hasB s.l (i + F)) := by
 have hmax : maxI (F : Int) 0 = (F : Int) := by unfold maxI; rw [if_neg (by omega)]
 have e1 : IntKind.i64.wrap ((To : Int) - (F : Int)) = ((To - F : Nat) : Int) := by rw [wrap64 (by omega) (by omega)]; omega
 unfold flags_Part
 rw [hmax, if_neg (by omega), e1, flags_New_eq (by omega)]
 simp only [Option.bind_some]
 have done : ∀ l B, (To ≤ B ∨ 64 * s.l.length ≤ B) → PartI s.l F (To - F) B l → l.length = (To - F + 63) / 64 ∧ u64s l ∧ ∀ i, hasB l i = (decide (i < To - F) && hasB s.l (i + F)) := fun l B hB ⟨h1, h2, h3⟩ => by
  refine ⟨h1, h2, fun i => ?_⟩
  rw [h3 i]
  by_cases c : i < To - F
  ·by_cases c2 : i + F < B
   ·rw [decide_eq_true c2, Bool.and_true]
   ·rw [hasB_out (ws := s.l) (p := i + F) (by omega)]; simp
  ·rw [decide_eq_false c]; rfl
 obtain ⟨r, r1, r2⟩ := loop_up (b := flags_Part_b1 s (F : Int) (To : Int)) s.l.length (fun j a => ∃ l, a = ((j : Int), l) ∧ PartI s.l F (To - F) (64 * j) l) (fun r => ∃ l B, (r = .inl l ∨ r = .inr (.inl l)) ∧ (To ≤ B ∨ 64 * s.l.length ≤ B) ∧ PartI s.l F (To - F) B l)
  (by
   rintro j _ hj ⟨l, rfl, hP⟩
   have ej := at_get hs hj
   have hw := hu _ (List.getElem_mem hj)
   obtain ⟨w, hw2⟩ := Int.eq_ofNat_of_zero_le hw.1
   have hwlt := hw.2
   rw [hw2] at ej hwlt
   obtain ⟨q, q1, q2⟩ := part_in (ws := s.l) hFT hTo (i := j) (w := w) (by omega) (by omega) (fun k hk => by rw [hasB_word (i := j) (k := k) (by omega) (by omega) (List.getElem?_eq_getElem hj), hw2, Int.toNat_natCast]) hP
   simp only [flags_Part_b1, ej, q1, Option.bind_some]
   rw [if_pos (by omega)]
   rcases q2 with ⟨l', rfl, B, b1, b2⟩ | ⟨l', rfl, b2⟩
   ·exact .inr ⟨_, rfl, l', B, .inl rfl, .inl b1, b2⟩
   ·refine .inl ⟨_, ?_, l', rfl, b2⟩
    simp only [Sum.elim_inr, Sum.elim_inl, w_succ hj (by omega)])
  (by
   rintro _ ⟨l, rfl, hP⟩
   refine ⟨.inr (.inl l), ?_, l, _, .inr rfl, .inr (Nat.le_refl _), hP⟩
   simp only [flags_Part_b1]
   rw [if_neg (by omega)]) 0 (Nat.zero_le _) (0, List.replicate ((To - F + 63) / 64) 0) ⟨_, rfl, by simp, fun x hx => by rw [List.eq_of_mem_replicate hx]; unfold u64r; omega, fun q => by rw [has_zero]; simp⟩
 rw [r1]
 obtain ⟨l, B, hr, hB, hP⟩ := r2
 refine ⟨l, ?_, done l B hB hP⟩
 rcases hr with rfl | rfl <;> rfl
def partN (n : Nat) (a b : Int) : Nat := min b.toNat n - a.toNat
def partF (n : Nat) (f : Nat → Option Int) (a b : Int) : Nat → Option Int := fun p => if p < partN n a b then f (p + a.toNat) else none
theorem partF_none (n : Nat) (f : Nat → Option Int) (a b : Int) : ∀ p, partN n a b ≤ p → partF n f a b p = none := fun p hp => by unfold partF; rw [if_neg (by omega)]
theorem partF_v64 {n : Nat} {f : Nat → Option Int} (h : ∀ p x, f p = some x → i64r x) (a b : Int) : ∀ p x, partF n f a b p = some x → i64r x := fun p x hx => by
 unfold partF at hx
 split at hx
 ·exact h _ x hx
 ·simp at hx
theorem part_zero {n : Nat} {f : Nat → Option Int} {a b : Int} (h : partN n a b = 0) : partF n f a b = fun _ => none := funext fun p => partF_none n f a b p (by omega)
theorem part_cases (n : Nat) (a b : Int) : (minI b (n : Int) ≤ maxI a 0 ∧ partN n a b = 0) ∨ (¬ minI b (n : Int) ≤ maxI a 0 ∧ ∃ F To : Nat, maxI a 0 = (F : Int) ∧ minI b (n : Int) = (To : Int) ∧ F < To ∧ To ≤ n ∧ a.toNat = F ∧ partN n a b = To - F) := by
 unfold minI maxI partN
 by_cases c : (if (n : Int) < b then (n : Int) else b) ≤ (if 0 > a then 0 else a)
 ·refine .inl ⟨c, ?_⟩
  split at c <;> split at c <;> omega
 ·refine .inr ⟨c, a.toNat, min b.toNat n, ?_, ?_, ?_, by omega, rfl, rfl⟩
  ·split <;> omega
  ·split at c <;> split at c <;> split <;> omega
  ·split at c <;> split at c <;> omega
theorem devec_Part_any {d : Dn} (h : OkD d) {n : Nat} {f : Nat → Option Int} (hd : DV (sureD d) n f) (a b : Int) : ∃ e : Dn, devec_Part d a b = some e ∧ DV e (partN n a b) (partF n f a b) := by
 have e := devec_sure_eq h
 obtain ⟨n1, s1, t1⟩ := d
 unfold devec_Part
 simp only [e, Option.bind_some]
 generalize sureD (n1, s1, t1) = u at hd
 have hle := hd.le
 have hnum := hd.num
 have hwl := words_len hd
 have hvl := hd.vlen
 have hb := hd.bits
 have hat := hd.at_
 have hhas := hd.has
 have hvals := hd.vals
 have hv64 := hd.v64
 have hvv := hd.vl
 obtain ⟨m, s, t⟩ := u
 simp only at hnum hwl hvl hb hat hvv hhas hvals ⊢
 subst hnum
 rcases part_cases n a b with ⟨c1, c2⟩ | ⟨c1, F, To, c2, c3, c4, c5, c6, c7⟩
 ·rw [if_pos c1, part_zero c2, c2]
  exact ⟨_, rfl, nilD_dv⟩
 ·rw [if_neg c1, c2, c3, c7]
  have e1 : IntKind.i64.wrap ((To : Int) - (F : Int)) = ((To - F : Nat) : Int) := by rw [wrap64 (by omega) (by omega)]; omega
  have hlo : lenOk ((To - F : Nat) : Int) = some () := by unfold lenOk bound; rw [if_pos ⟨by omega, by omega⟩]
  obtain ⟨q, q1, q2, q3, q4⟩ := flags_Part_eq hhas hb hwl c4 (by omega)
  have hsz : t.sz = 1 := hvals.resolve_left (by intro h; rw [h] at hvl; simp at hvl; omega)
  have hcut : cutS 1 t (F : Int) (To : Int) = some ⟨t.nn, t.sz, (t.l.drop F).take (To - F)⟩ := by
   unfold cutS
   rw [if_pos ⟨by omega, by omega, by omega, .inl hsz⟩, Int.toNat_natCast, Int.toNat_natCast]
  have hlen : ((t.l.drop F).take (To - F)).length = To - F := by simp; omega
  have hcp : cpL (List.replicate (To - F) (0 : Int)) ((t.l.drop F).take (To - F)) = some ((t.l.drop F).take (To - F)) := by
   unfold cpL
   rw [if_pos (by rw [hlen]; simp), hlen]
   simp
  rw [e1, if_neg (by omega), if_neg (by omega), flags_New_eq (by omega)]
  simp only [hlo, q1, hcut, Option.bind_some, Int.toNat_natCast, hcp]
  have hpf : ∀ p, partF n f a b p = if p < To - F then f (p + F) else none := fun p => by unfold partF; rw [c7, c6]
  refine ⟨_, rfl, rfl, by omega, .inr rfl, q3, by exact q2, .inr rfl, ?_, fun p => ?_, ?_, partF_v64 hv64 a b⟩
  ·show (t.l.drop F).take (To - F) = _
   refine List.ext_getElem? fun i => ?_
   by_cases hi : i < To - F
   ·rw [List.getElem?_take, if_pos hi, List.getElem?_drop, hvv, tabM_get _ (by omega), tabM_get _ hi, hpf, if_pos hi, Nat.add_comm F i]
   ·rw [List.getElem?_eq_none (by rw [hlen]; omega), List.getElem?_eq_none (by rw [tabM_len]; omega)]
  ·show hasB q p = _
   rw [q4, hpf, hat]
   by_cases hi : p < To - F
   ·rw [decide_eq_true hi, if_pos hi]; rfl
   ·rw [decide_eq_false hi, if_neg hi]; rfl
  ·have := partF_none n f a b
   rwa [c7] at this
end Ev
end Go.Proofs.YtmiaonncbefmmaaDoor
end
section
namespace Go.Proofs.YtmiaonncbefmmaaDoor
namespace Ev
open Go
set_option linter.unusedVariables false
set_option linter.unusedSimpArgs false
theorem wrapu64s {n : Int} (h1 : 0 ≤ n) (h2 : n ≤ 18446744073709551615) : IntKind.u64.wrap n = n := by rw [wrap_u64]; omega
theorem shr_halfs (n : Nat) : shr1 .u64 (n : Int) 1 = some ((n / 2 : Nat) : Int) := by
 unfold shr1 shrI
 rw [if_pos (by omega), show ((2 : Int) ^ (min (1 : Int).toNat IntKind.u64.bits)) = 2 from by decide, Int.fdiv_eq_ediv_of_nonneg _ (by omega)]
 rfl
theorem asc_pairs {n : Int} : ∀ {a : Int} {l : List It}, asc a n l = true → l.Pairwise fun x y => x.1 < y.1
 | a, [], _ => List.Pairwise.nil
 | a, x :: l, h => by
  have h2 : asc x.1 n l = true := by simp only [asc, Bool.and_eq_true] at h; exact h.2
  exact List.pairwise_cons.2 ⟨fun y hy => (asc_lt h2 y hy).1, asc_pairs h2⟩
theorem spvec_find_x {v : Int × Sl It} (hok : okS 2 v.2) (hl : v.2.l.length ≤ 5000) (hs : v.2.l.Pairwise fun a b => a.1 < b.1) (y : Int) : ∃ k : Nat, k ≤ v.2.l.length ∧ spvec_find v y = some ((k : Int), decide (v.2.l[k]?.map (·.1) = some y)) ∧ (∀ j (hj : j < v.2.l.length), j < k → v.2.l[j].1 < y) ∧ (∀ j (hj : j < v.2.l.length), k ≤ j → y ≤ v.2.l[j].1) := by
 obtain ⟨n, s⟩ := v
 simp only at hok hl hs
 have hp := List.pairwise_iff_getElem.1 hs
 have key : ∀ d a b : Nat, b - a ≤ d → a ≤ b → b ≤ s.l.length → (∀ j (hj : j < s.l.length), j < a → s.l[j].1 < y) → (∀ j (hj : j < s.l.length), b ≤ j → y ≤ s.l[j].1) → ∃ k : Nat, k ≤ s.l.length ∧ loopO (spvec_find_b1 s y) ((a : Int), (b : Int)) = some (.inl (k : Int)) ∧ (∀ j (hj : j < s.l.length), j < k → s.l[j].1 < y) ∧ (∀ j (hj : j < s.l.length), k ≤ j → y ≤ s.l[j].1) := by
  intro d
  induction d with
  | zero =>
   intro a b hd hab hb h1 h2
   obtain rfl : a = b := by omega
   refine ⟨a, hb, loopO_done ?_, h1, h2⟩
   simp only [spvec_find_b1]
   rw [if_neg (by omega)]
  | succ d ih =>
   intro a b hd hab hb h1 h2
   by_cases hlt : a < b
   ·have hmid : (a + b) / 2 < s.l.length := by omega
    have e1 : IntKind.i64.wrap ((a : Int) + (b : Int)) = ((a + b : Nat) : Int) := by rw [wrap64 (by omega) (by omega)]; omega
    have e2 : IntKind.u64.wrap ((a + b : Nat) : Int) = ((a + b : Nat) : Int) := by rw [wrapu64s (by omega) (by omega)]
    have e3 := shr_halfs (a + b)
    have e4 : IntKind.i64.wrap (((a + b) / 2 : Nat) : Int) = (((a + b) / 2 : Nat) : Int) := by rw [wrap64 (by omega) (by omega)]
    have e5 : IntKind.i64.wrap ((((a + b) / 2 : Nat) : Int) + 1) = (((a + b) / 2 + 1 : Nat) : Int) := by rw [wrap64 (by omega) (by omega)]; omega
    have a1 := at_get hok hmid
    by_cases hc : s.l[(a + b) / 2].1 ≥ y
    ·obtain ⟨k, k1, k2, k3, k4⟩ := ih a ((a + b) / 2) (by omega) (by omega) (by omega) h1 (fun j hj hja => by
      by_cases hjm : j = (a + b) / 2
      ·subst hjm; omega
      ·have := hp ((a + b) / 2) j hmid hj (by omega); omega)
     refine ⟨k, k1, (loopO_step ?_).trans k2, k3, k4⟩
     simp only [spvec_find_b1, e1, e2, e3, e4, a1, Option.bind_some]
     rw [if_pos (by omega), if_pos hc]
    ·obtain ⟨k, k1, k2, k3, k4⟩ := ih ((a + b) / 2 + 1) b (by omega) (by omega) hb (fun j hj hja => by
      by_cases hjm : j = (a + b) / 2
      ·subst hjm; omega
      ·have := hp j ((a + b) / 2) hj hmid (by omega); omega) h2
     refine ⟨k, k1, (loopO_step ?_).trans k2, k3, k4⟩
     simp only [spvec_find_b1, e1, e2, e3, e4, a1, Option.bind_some]
     rw [if_pos (by omega), if_neg hc, e5]
   ·obtain rfl : a = b := by omega
    exact ih a a (by omega) hab hb h1 h2
 obtain ⟨k, k1, k2, k3, k4⟩ := key s.l.length 0 s.l.length (by omega) (by omega) (Nat.le_refl _) (fun j _ h => by omega) (fun j hj h => by omega)
 refine ⟨k, k1, ?_, k3, k4⟩
 unfold spvec_find
 simp only
 rw [show loopO (spvec_find_b1 s y) (0, ((s.l.length : Nat) : Int)) = some (.inl (k : Int)) from k2]
 simp only [Option.bind_some, Sum.elim_inl]
 by_cases hk : k < s.l.length
 ·rw [if_pos (by omega), at_get hok hk]
  simp only [Option.bind_some, List.getElem?_eq_getElem hk, Option.map_some, Option.some.injEq]
  by_cases he : s.l[k].1 = y
  ·rw [if_pos he, decide_eq_true he]
  ·rw [if_neg he, decide_eq_false he]
 ·rw [if_neg (by omega), List.getElem?_eq_none (by omega)]
  simp
theorem spvec_find_split {v : Int × Sl It} (hok : okS 2 v.2) (hl : v.2.l.length ≤ 5000) (hs : v.2.l.Pairwise fun a b => a.1 < b.1) {y : Int} {A B : List It} (e : v.2.l = A ++ B) (hA : ∀ x ∈ A, x.1 < y) (hB : ∀ x ∈ B, y ≤ x.1) : ∃ b, spvec_find v y = some ((A.length : Int), b) := by
 obtain ⟨k, k1, k2, k3, k4⟩ := spvec_find_x hok hl hs y
 have : k = A.length := by
  rcases Nat.lt_trichotomy k A.length with h | h | h
  ·have h1 := k4 k (by rw [e, List.length_append]; omega) (Nat.le_refl _)
   have h2 : v.2.l[k]'(by rw [e, List.length_append]; omega) = A[k] := by
    simp only [e]
    exact List.getElem_append_left h
   rw [h2] at h1
   have := hA _ (List.getElem_mem h)
   omega
  ·exact h
  ·have hB0 : 0 < B.length := by rw [e, List.length_append] at k1; omega
   have h1 := k3 A.length (by rw [e, List.length_append]; omega) h
   have h2 : v.2.l[A.length]'(by rw [e, List.length_append]; omega) = B[0] := by
    simp only [e]
    rw [List.getElem_append_right (Nat.le_refl _)]
    simp
   rw [h2] at h1
   have := hB _ (List.getElem_mem hB0)
   omega
 subst this
 exact ⟨_, k2⟩
theorem set_mid {α : Type} {A : List α} {z x : α} {m : Nat} : (A ++ List.replicate (m + 1) z).set A.length x = (A ++ [x]) ++ List.replicate m z := by
 rw [List.set_append_right _ _ (Nat.le_refl _), Nat.sub_self, List.replicate_succ]
 simp
theorem spvec_moved_x {s : Sl It} (hok : okS 2 s) (hl : s.l.length ≤ 5000) (d : Int) : spvec_moved s d = some (s.l.map fun x => (IntKind.i64.wrap (x.1 + d), x.2)) := by
 unfold spvec_moved
 rw [show lenOk ((s.l.length : Nat) : Int) = some () by unfold lenOk bound; rw [if_pos ⟨by omega, by omega⟩]]
 simp only [Option.bind_some, Int.toNat_natCast]
 obtain ⟨q, q1, rfl⟩ := loop_up (b := spvec_moved_b1 s d) s.l.length (fun j a => a = ((s.l.take j).map (fun x => (IntKind.i64.wrap (x.1 + d), x.2)) ++ List.replicate (s.l.length - j) ((0, 0) : Int × Int), (j : Int))) (fun q => q = .inl (s.l.map fun x => (IntKind.i64.wrap (x.1 + d), x.2)))
  (by
   rintro j _ hj rfl
   have a1 := at_get hok hj
   have hm : s.l.length - j = (s.l.length - (j + 1)) + 1 := by omega
   have hA : ((s.l.take j).map (fun x => (IntKind.i64.wrap (x.1 + d), x.2))).length = j := by rw [List.length_map, List.length_take]; omega
   have a2 : atL ((s.l.take j).map (fun x => (IntKind.i64.wrap (x.1 + d), x.2)) ++ List.replicate (s.l.length - j) ((0, 0) : Int × Int)) (j : Int) = some (0, 0) := by
    have hlt : j < ((s.l.take j).map (fun x => (IntKind.i64.wrap (x.1 + d), x.2)) ++ List.replicate (s.l.length - j) ((0, 0) : Int × Int)).length := by rw [List.length_append, hA, List.length_replicate]; omega
    rw [atL_get hlt, List.getElem_append_right (by omega)]
    simp
   refine .inl ⟨_, ?_, rfl⟩
   simp only [spvec_moved_b1]
   rw [if_pos (by omega), a1]
   simp only [Option.bind_some]
   rw [a2]
   simp only [Option.bind_some, Int.toNat_natCast]
   rw [w_succ hj (by omega), hm, List.take_succ_eq_append_getElem hj, List.map_append]
   refine congrArg some (congrArg Sum.inl (Prod.ext ?_ rfl))
   have := set_mid (A := (s.l.take j).map (fun x => (IntKind.i64.wrap (x.1 + d), x.2))) (z := ((0, 0) : Int × Int)) (x := (IntKind.i64.wrap (s.l[j].1 + d), s.l[j].2)) (m := s.l.length - (j + 1))
   rw [hA] at this
   exact this)
  (by
   rintro _ rfl
   refine ⟨_, if_neg (show ¬ ((s.l.length : Nat) : Int) < ((s.l.length : Nat) : Int) by omega), ?_⟩
   simp) 0 (Nat.zero_le _) (List.replicate s.l.length ((0, 0) : Int × Int), 0) (by simp)
 rw [q1]
 rfl
structure VS (v : Int × Sl It) (n : Nat) (f : Nat → Option Int) : Prop where
 num : v.1 = (n : Int)
 le : n ≤ 4096
 ok : okS 2 v.2
 l : v.2.l = vecG n f
 v64 : ∀ p x, f p = some x → i64r x
section
variable {v w : Int × Sl It} {n m : Nat} {f g : Nat → Option Int}
theorem VS.len (h : VS v n f) : v.2.l.length ≤ 4096 := by
 rw [h.l]
 have := gathR_len 0 n f
 have := h.le
 unfold vecG
 omega
theorem VS.right (h : VS v n f) : rightB v = true := by
 have := right_vecG (n := v.1) (s := v.2) (g := f) (by rw [h.num]; omega) (by have := h.le; rw [h.num]; omega) (by rw [h.num, Int.toNat_natCast]; exact h.l)
 exact this
theorem VS.sure (h : VS v n f) : spvec_sure v = some v := by
 have := h.len
 rw [spvec_sure_eq v h.ok (by omega), sure_id h.right]
theorem VS.asc (h : VS v n f) : v.2.l.Pairwise fun a b => a.1 < b.1 := by
 have := h.right
 simp only [rightB, Bool.and_eq_true] at this
 exact asc_pairs this.2
theorem VS.good (h : VS v n f) : GoodV v := ⟨h.right, h.ok, fun x hx => by
 rw [h.l] at hx
 obtain ⟨p, _, _, _, hp⟩ := gathR_mem hx
 exact h.v64 p _ hp⟩
theorem GoodV.vs (h : GoodV v) : VS v v.1.toNat fun p => getI (p : Int) v.2.l := by
 have hz := right_size h.1
 exact ⟨by omega, by omega, h.2.1, h.vec.symm, fun p x hp => h.2.2 _ (getI_in hp)⟩
theorem vecG_split {F T n : Nat} (h1 : F ≤ T) (h2 : T ≤ n) (f : Nat → Option Int) : vecG n f = gathR 0 F f ++ gathR F (T - F) f ++ gathR T (n - T) f := by
 have a := gathR_app 0 F (n - F) f
 have b := gathR_app F (T - F) (n - T) f
 rw [show F + (n - F) = n by omega, Nat.zero_add] at a
 rw [show T - F + (n - T) = n - F by omega, show F + (T - F) = T by omega] at b
 show gathR 0 n f = _
 rw [a, b, List.append_assoc]
theorem gath_shift (a k d : Nat) (f : Nat → Option Int) : (gathR (a + d) k f).map (fun x => (x.1 - (d : Int), x.2)) = gathR a k fun p => f (p + d) := by
 induction k generalizing a with
 | zero => rfl
 | succ k ih =>
  rw [gathR_succ, gathR_succ, List.map_append, show a + d + 1 = (a + 1) + d by omega, ih]
  congr 1
  cases f (a + d) with
  | none => rfl
  | some x => simp
theorem spvec_Part_v (h : VS v n f) {F T : Nat} (h1 : F ≤ T) (h2 : T ≤ n) : ∃ w, spvec_Part v (F : Int) (T : Int) = some w ∧ VS w (T - F) fun p => f (p + F) := by
 have hs := h.sure
 have hle := h.le
 have hlen := h.len
 have hnum := h.num
 obtain ⟨n1, s⟩ := v
 simp only at hnum
 unfold spvec_Part
 simp only [hs, Option.bind_some]
 rw [show minI (T : Int) n1 = (T : Int) by unfold minI; split <;> omega, show maxI (F : Int) 0 = (F : Int) by unfold maxI; split <;> omega]
 by_cases hFT : (T : Int) ≤ (F : Int)
 ·rw [if_pos hFT]
  obtain rfl : F = T := by omega
  refine ⟨_, rfl, ?_, by omega, .inl rfl, ?_, fun p x hp => h.v64 _ x hp⟩
  ·rw [Nat.sub_self]; rfl
  ·rw [Nat.sub_self]; rfl
 ·rw [if_neg hFT]
  have hsp := h.l
  rw [vecG_split h1 h2 f] at hsp
  have gm : ∀ {a k : Nat} {x : It}, x ∈ gathR a k f → (a : Int) ≤ x.1 ∧ x.1 < ((a + k : Nat) : Int) := fun {a k x} hx => by
   obtain ⟨p, p1, p2, p3, _⟩ := gathR_mem hx
   omega
  obtain ⟨b1, f1⟩ := spvec_find_split h.ok (by omega) h.asc (y := (F : Int)) (A := gathR 0 F f) (B := gathR F (T - F) f ++ gathR T (n - T) f) (by rw [hsp, List.append_assoc]) (fun x hx => by have := gm hx; omega) (fun x hx => by
   rcases List.mem_append.1 hx with hx | hx
   ·have := gm hx; omega
   ·have := gm hx; omega)
  obtain ⟨b2, f2⟩ := spvec_find_split h.ok (by omega) h.asc (y := (T : Int)) (A := gathR 0 F f ++ gathR F (T - F) f) (B := gathR T (n - T) f) hsp (fun x hx => by
   rcases List.mem_append.1 hx with hx | hx
   ·have := gm hx; omega
   ·have := gm hx; omega) (fun x hx => by have := gm hx; omega)
  rw [f1]
  simp only [Option.bind_some]
  rw [f2]
  simp only [Option.bind_some]
  have hs2 : s.l = gathR 0 F f ++ gathR F (T - F) f ++ gathR T (n - T) f := hsp
  have hcut : cutS 2 s (((gathR 0 F f).length : Nat) : Int) (((gathR 0 F f ++ gathR F (T - F) f).length : Nat) : Int) = some ⟨s.nn, s.sz, gathR F (T - F) f⟩ := by
   unfold cutS
   have hz : s.sz = 2 ∨ (((gathR 0 F f).length : Nat) : Int) = 0 := by
    rcases h.ok with h0 | h0
    ·right
     have h0 : s.l = [] := h0
     rw [hs2] at h0
     simp only [List.append_eq_nil_iff] at h0
     rw [h0.1.1]; rfl
    ·exact .inl h0
   rw [if_pos ⟨by omega, by rw [List.length_append]; omega, by rw [hs2]; simp only [List.length_append]; omega, hz⟩]
   refine congrArg some ?_
   rw [Int.toNat_natCast]
   have e : ∀ {A B C : List It}, ((A ++ B ++ C).drop A.length).take ((A ++ B).length - A.length) = B := fun {A B C} => by
    rw [List.append_assoc, List.drop_left, List.length_append, Nat.add_sub_cancel_left, List.take_left]
   have e2 := e (A := gathR 0 F f) (B := gathR F (T - F) f) (C := gathR T (n - T) f)
   rw [hs2]
   simp only [Int.toNat_natCast]
   rw [e2]
  rw [hcut]
  simp only [Option.bind_some]
  have hok2 : okS 2 (⟨s.nn, s.sz, gathR F (T - F) f⟩ : Sl It) := by
   rcases h.ok with h0 | h0
   ·have h0 : s.l = [] := h0
    rw [hs2] at h0
    simp only [List.append_eq_nil_iff] at h0
    exact .inl h0.1.2
   ·exact .inr h0
  have hgl := gathR_len F (T - F) f
  rw [spvec_moved_x hok2 (by show (gathR F (T - F) f).length ≤ 5000; omega)]
  simp only [Option.bind_some]
  refine ⟨_, rfl, ?_, by omega, .inr rfl, ?_, fun p x hp => h.v64 _ x hp⟩
  ·show IntKind.i64.wrap ((T : Int) - (F : Int)) = ((T - F : Nat) : Int)
   rw [wrap64 (by omega) (by omega)]
   omega
  ·show (gathR F (T - F) f).map _ = gathR 0 (T - F) _
   have := gath_shift 0 (T - F) F f
   rw [Nat.zero_add] at this
   rw [← this]
   refine List.map_congr_left fun x hx => ?_
   have := gm hx
   rw [show IntKind.i64.wrap (0 - (F : Int)) = -(F : Int) by rw [wrap64 (by omega) (by omega)]; omega, wrap64 (by omega) (by omega)]
   exact Prod.ext (by show x.1 + -(F : Int) = x.1 - (F : Int); omega) rfl
theorem gath_up (k d : Nat) (g : Nat → Option Int) : (gathR 0 k g).map (fun x => (x.1 + (d : Int), x.2)) = gathR d k fun p => g (p - d) := by
 have key : ∀ a : Nat, (gathR a k g).map (fun x => (x.1 + (d : Int), x.2)) = gathR (a + d) k fun p => g (p - d) := by
  induction k with
  | zero => intro a; rfl
  | succ k ih =>
   intro a
   rw [gathR_succ, gathR_succ, List.map_append, ih (a + 1), show a + 1 + d = a + d + 1 by omega]
   congr 1
   rw [show a + d - d = a by omega]
   cases g a with
   | none => rfl
   | some x => simp
 have := key 0
 rwa [Nat.zero_add] at this
theorem glue_step {s : Sl (Int × Sl It)} (hs : okS 2 s) {i : Nat} (hi : i < s.l.length) (hl : s.l.length ≤ 100) (h : VS s.l[i] m g) {N : Nat} (hN : N + m ≤ 4096) {L : List It} (hL : L.length ≤ 4096) : spvec_Glue_b1 s ((i : Int), (N : Int), L) = some (.inl (((i + 1 : Nat) : Int), ((N + m : Nat) : Int), L ++ gathR N m fun p => g (p - N))) := by
 have a1 := at_get hs hi
 have hsu := h.sure
 have hnum := h.num
 have hlen := h.len
 have hl2 := h.l
 have hok := h.ok
 generalize s.l[i] = w at a1 hsu hnum hlen hl2 hok
 obtain ⟨n1, t⟩ := w
 simp only at hnum hlen hl2 hok
 have hmv : spvec_moved t (N : Int) = some (gathR N m fun p => g (p - N)) := by
  rw [spvec_moved_x hok (by omega), hl2]
  refine congrArg some ?_
  rw [← gath_up]
  refine List.map_congr_left fun x hx => ?_
  obtain ⟨p, p1, p2, p3, _⟩ := gathR_mem hx
  rw [wrap64 (by omega) (by omega)]
 have hg := gathR_len N m fun p => g (p - N)
 have hw : IntKind.i64.wrap ((N : Int) + n1) = ((N + m : Nat) : Int) := by rw [wrap64 (by omega) (by omega)]; omega
 simp only [spvec_Glue_b1]
 rw [if_pos (by omega), a1]
 simp only [Option.bind_some]
 rw [hsu]
 simp only [Option.bind_some]
 rw [hmv]
 simp only [Option.bind_some]
 rw [hw, w_succ hi (by omega)]
 generalize (gathR N m fun p => g (p - N)) = G at hg
 cases G with
 | nil =>
  simp only
  cases L with
  | nil =>
   simp only
   rw [if_neg (by omega)]; rfl
  | cons y t' =>
   simp only
   rw [app_ok (by simp only [List.length_nil]; unfold bound; omega)]
   simp only [Option.bind_some]
   rw [if_neg (by omega)]
 | cons y t' =>
  simp only
  rw [app_ok (by unfold bound; omega)]
  simp only [Option.bind_some]
  rw [if_neg (by omega)]
theorem equal_items {a b : Sl It} (ha : okS 2 a) (hb : okS 2 b) (he : a.l = b.l) (hl : a.l.length ≤ 5000) : slices_Equal_api_Item_api_Item a b = some true := by
 unfold slices_Equal_api_Item_api_Item
 rw [if_neg (by rw [he]; simp)]
 obtain ⟨q, q1, rfl⟩ := loop_up (b := slices_Equal_api_Item_api_Item_b1 a b) a.l.length (fun j z => z = (j : Int)) (fun q => q = .inl ())
  (by
   rintro j _ hj rfl
   have a1 := at_get ha hj
   have a2 := at_get hb (j := j) (by rw [← he]; exact hj)
   have e : b.l[j]'(by rw [← he]; exact hj) = a.l[j] := by simp only [he]
   rw [e] at a2
   refine .inl ⟨_, ?_, rfl⟩
   simp only [slices_Equal_api_Item_api_Item_b1]
   rw [if_pos (by omega), a1]
   simp only [Option.bind_some]
   rw [a2]
   simp only [Option.bind_some]
   rw [if_pos (by simp), w_succ hj (by omega)])
  (by
   rintro _ rfl
   exact ⟨_, if_neg (show ¬ ((a.l.length : Nat) : Int) < ((a.l.length : Nat) : Int) by omega), rfl⟩) 0 (Nat.zero_le _) 0 rfl
 rw [q1]
 rfl
theorem VS.same (h : VS v n f) (k : VS w n g) (hfg : ∀ p, p < n → f p = g p) : spvec_Same v w = some true := by
 have e1 := h.sure
 have e2 := k.sure
 have hl : v.2.l = w.2.l := by rw [h.l, k.l, vecG_congr hfg]
 have e3 := equal_items h.ok k.ok hl (by have := h.len; omega)
 have e4 : v.1 = w.1 := by rw [h.num, k.num]
 obtain ⟨n1, s⟩ := v
 obtain ⟨n2, t⟩ := w
 simp only at e3 e4
 unfold spvec_Same
 simp only [e1, e2, Option.bind_some]
 rw [if_pos e4, e3]
 rfl
theorem fill_two : spvec_Fill 2 7 = some (2, ⟨true, 2, [(0, 7), (1, 7)]⟩) := by
 have s1 : spvec_Fill_b1 2 7 (0, [(0, 0), (0, 0)]) = some (.inl (1, [(0, 7), (0, 0)])) := rfl
 have s2 : spvec_Fill_b1 2 7 (1, [(0, 7), (0, 0)]) = some (.inl (2, [(0, 7), (1, 7)])) := rfl
 have s3 : spvec_Fill_b1 2 7 (2, [(0, 7), (1, 7)]) = some (.inr (.inl [(0, 7), (1, 7)])) := rfl
 unfold spvec_Fill
 rw [show spvec_size 2 = some true from rfl]
 simp only [Option.bind_some, if_true]
 rw [show lenOk 2 = some () from rfl]
 simp only [Option.bind_some]
 rw [show List.replicate (Int.toNat 2) ((0, 0) : Int × Int) = [(0, 0), (0, 0)] from rfl, loopO_step s1, loopO_step s2, loopO_done s3]
 rfl
theorem get_two : spvec_Get (2, ⟨true, 2, [(0, 7), (1, 7)]⟩) 1 = some (7, true) := by
 have ok : okS 2 (⟨true, 2, [(0, 7), (1, 7)]⟩ : Sl It) := .inr rfl
 have r : rightB ((2 : Int), (⟨true, 2, [(0, 7), (1, 7)]⟩ : Sl It)) = true := by decide
 have e := spvec_sure_eq ((2 : Int), (⟨true, 2, [(0, 7), (1, 7)]⟩ : Sl It)) ok (by simp)
 rw [sure_id r] at e
 obtain ⟨k, k1, k2, k3, k4⟩ := spvec_find_x (v := ((2 : Int), (⟨true, 2, [(0, 7), (1, 7)]⟩ : Sl It))) ok (by simp) (by simp) 1
 simp only [List.length_cons, List.length_nil] at k1 k3 k4
 have hk : k = 1 := by
  rcases k with _ | _ | _ | k
  ·have := k4 0 (by omega) (by omega); simp at this
  ·rfl
  ·have := k3 1 (by omega) (by omega); simp at this
  ·omega
 subst hk
 unfold spvec_Get
 simp only [e, Option.bind_some]
 rw [k2]
 rfl
end
end Ev
end Go.Proofs.YtmiaonncbefmmaaDoor
end
section
namespace Go.Proofs.YtmiaonncbefmmaaDoor
namespace Ev
open Go
set_option linter.unusedVariables false
set_option linter.unusedSimpArgs false
theorem rem_nat {a : Int} (ha : 0 ≤ a ∧ a ≤ 255) {N : Nat} (hN : N ≤ 4096) : ∃ A : Nat, modO (IntKind.i64.wrap a) (IntKind.i64.wrap ((N : Int) + 1)) = some (A : Int) ∧ A ≤ N := by
 rw [wrap64 (n := a) (by omega) (by omega), wrap64 (by omega) (by omega)]
 unfold modO
 rw [if_pos (by omega), Int.tmod_eq_emod_of_nonneg ha.1]
 have h1 := Int.emod_nonneg a (show ((N : Int) + 1) ≠ 0 by omega)
 have h2 := Int.emod_lt_of_pos a (show 0 < (N : Int) + 1 by omega)
 exact ⟨(a % ((N : Int) + 1)).toNat, by congr 1; omega, by omega⟩
theorem top_TopForms_true (n : Int) (hn : inK .u8 n) (s : Sl It) (hs : SlW 2 WIt s) (a : Int × Int) (ha : inK .u8 a.1 ∧ inK .u8 a.2) : top_TopForms n s a = some true := by
 obtain ⟨a1, a2⟩ := a
 obtain ⟨v, g1, g2⟩ := law09_Some_good n s (u8_of hn) hs.ok (by have := hs.2.2.1; unfold maxLen at this; omega)
 have hv := g2.vs
 obtain ⟨d, d1, d2⟩ := g2.of_dv
 generalize (fun p : Nat => getI (p : Int) v.2.l) = f at hv d2
 have hnum := hv.num
 generalize v.1.toNat = N at hv d2 hnum
 have hle := hv.le
 obtain ⟨A, m1, hA⟩ := rem_nat (u8_of ha.1) hle
 obtain ⟨B, m2, hB⟩ := rem_nat (u8_of ha.2) (show N - A ≤ 4096 by omega)
 obtain ⟨x, x1, x2⟩ := spvec_Part_v hv (Nat.zero_le A) hA
 obtain ⟨y, y1, y2⟩ := spvec_Part_v hv (show A ≤ A + B by omega) (show A + B ≤ N by omega)
 obtain ⟨z, z1, z2⟩ := spvec_Part_v hv (show A + B ≤ N by omega) (Nat.le_refl N)
 obtain ⟨e, e1, e2⟩ := devec_Part_any d2.ok d2.sureD_eq (A : Int) ((A + B : Nat) : Int)
 have hpn : partN N (A : Int) ((A + B : Nat) : Int) = A + B - A := by unfold partN; omega
 have hpf : ∀ p, p < A + B - A → partF N f (A : Int) ((A + B : Nat) : Int) p = f (p + A) := fun p hp => by
  unfold partF
  rw [hpn, if_pos hp, Int.toNat_natCast]
 rw [hpn] at e2
 have b1 := devec_Back_dv e2.ok e2.sureD_eq
 have b2 : VS (((A + B - A : Nat) : Int), mo 2 (vecG (A + B - A) (partF N f (A : Int) ((A + B : Nat) : Int)))) (A + B - A) (partF N f (A : Int) ((A + B : Nat) : Int)) := ⟨rfl, by omega, ok_mo _, mo_l _ _, e2.v64⟩
 generalize hW : (((A + B - A : Nat) : Int), mo 2 (vecG (A + B - A) (partF N f (A : Int) ((A + B : Nat) : Int)))) = bk at b1 b2
 -- glued
 have hgl : ∃ L : List It, spvec_Glue ⟨true, 2, [x, bk, z]⟩ = some (((N : Int), mo 2 L), 0) ∧ L = vecG N f := by
  have okl : okS 2 (⟨true, 2, [x, bk, z]⟩ : Sl (Int × Sl It)) := .inr rfl
  have l1 := gathR_len 0 A fun p => f (p - 0 + 0)
  have l2 := gathR_len A (A + B - A) fun p => partF N f (A : Int) ((A + B : Nat) : Int) (p - A)
  have t1 := glue_step (s := ⟨true, 2, [x, bk, z]⟩) okl (i := 0) (by simp) (by simp) (m := A - 0) (g := fun p => f (p + 0)) x2 (N := 0) (by omega) (L := []) (by simp)
  have t2 := glue_step (s := ⟨true, 2, [x, bk, z]⟩) okl (i := 1) (by simp) (by simp) (m := A + B - A) (g := partF N f (A : Int) ((A + B : Nat) : Int)) b2 (N := A) (by omega) (L := gathR 0 A fun p => f (p - 0 + 0)) (by omega)
  have t3 := glue_step (s := ⟨true, 2, [x, bk, z]⟩) okl (i := 2) (by simp) (by simp) (m := N - (A + B)) (g := fun p => f (p + (A + B))) z2 (N := A + B) (by omega) (L := (gathR 0 A fun p => f (p - 0 + 0)) ++ gathR A (A + B - A) fun p => partF N f (A : Int) ((A + B : Nat) : Int) (p - A)) (by rw [List.length_append]; omega)
  obtain ⟨G1, h1⟩ : ∃ G, G = gathR 0 A fun p => f (p - 0 + 0) := ⟨_, rfl⟩
  obtain ⟨G2, h2⟩ : ∃ G, G = gathR A (A + B - A) fun p => partF N f (A : Int) ((A + B : Nat) : Int) (p - A) := ⟨_, rfl⟩
  obtain ⟨G3, h3⟩ : ∃ G, G = gathR (A + B) (N - (A + B)) fun p => f (p - (A + B) + (A + B)) := ⟨_, rfl⟩
  have u1 : spvec_Glue_b1 ⟨true, 2, [x, bk, z]⟩ (((0 : Nat) : Int), ((0 : Nat) : Int), []) = some (.inl (((1 : Nat) : Int), (A : Int), G1)) := by
   rw [t1, h1]
   simp only [Nat.sub_zero, Nat.zero_add, List.nil_append]
  have u2 : spvec_Glue_b1 ⟨true, 2, [x, bk, z]⟩ (((1 : Nat) : Int), (A : Int), G1) = some (.inl (((2 : Nat) : Int), ((A + B : Nat) : Int), G1 ++ G2)) := by
   rw [← h1, ← h2, show A + (A + B - A) = A + B by omega] at t2
   exact t2
  have u3 : spvec_Glue_b1 ⟨true, 2, [x, bk, z]⟩ (((2 : Nat) : Int), ((A + B : Nat) : Int), G1 ++ G2) = some (.inl (((3 : Nat) : Int), (N : Int), G1 ++ G2 ++ G3)) := by
   rw [← h1, ← h2, ← h3, show A + B + (N - (A + B)) = N by omega] at t3
   exact t3
  have u4 : spvec_Glue_b1 ⟨true, 2, [x, bk, z]⟩ (((3 : Nat) : Int), (N : Int), G1 ++ G2 ++ G3) = some (.inr (.inl ((N : Int), G1 ++ G2 ++ G3))) := by
   simp only [spvec_Glue_b1]
   rw [if_neg (by simp)]
  refine ⟨G1 ++ G2 ++ G3, ?_, ?_⟩
  ·unfold spvec_Glue
   rw [show ((0 : Int), (0 : Int), ([] : List It)) = (((0 : Nat) : Int), ((0 : Nat) : Int), ([] : List It)) from rfl, loopO_step u1, loopO_step u2, loopO_step u3, loopO_done u4]
   rfl
  ·rw [vecG_split (F := A) (T := A + B) (by omega) (by omega)]
   have q1 : gathR 0 A f = G1 := by rw [h1]; exact gathR_congr fun p _ _ => by simp
   have q2 : gathR A (A + B - A) f = G2 := by
    rw [h2]
    exact gathR_congr fun p h1 h2 => by rw [hpf _ (by omega), show p - A + A = p by omega]
   have q3 : gathR (A + B) (N - (A + B)) f = G3 := by
    rw [h3]
    exact gathR_congr fun p h1 h2 => by rw [show p - (A + B) + (A + B) = p by omega]
   rw [q1, q2, q3]
 obtain ⟨L, c1, c2⟩ := hgl
 have cv : VS ((N : Int), mo 2 L) N f := ⟨rfl, hle, ok_mo _, by rw [mo_l, c2], hv.v64⟩
 have s1 := cv.same hv fun p _ => rfl
 have s2 := b2.same y2 fun p hp => hpf p hp
 obtain ⟨q, q1, q2⟩ := y2.good.of_dv
 have hyn : y.1.toNat = A + B - A := by rw [y2.num, Int.toNat_natCast]
 rw [hyn] at q2
 have s3 := q2.sameD e2 fun p hp => by
  rw [y2.l, getI_vecG _ hp, hpf p hp]
 obtain ⟨v1, v2⟩ := v
 obtain ⟨x1', x2'⟩ := x
 obtain ⟨y1', y2'⟩ := y
 obtain ⟨z1', z2'⟩ := z
 obtain ⟨k1, k2⟩ := bk
 obtain ⟨d1', d2', d3'⟩ := d
 obtain ⟨e1', e2', e3'⟩ := e
 obtain ⟨q1', q2', q3'⟩ := q
 simp only at hnum
 subst hnum
 have w1 : IntKind.i64.wrap (IntKind.i64.wrap ((N : Int) - (A : Int)) + 1) = IntKind.i64.wrap (((N - A : Nat) : Int) + 1) := by
  rw [wrap64 (n := (N : Int) - (A : Int)) (by omega) (by omega), show (N : Int) - (A : Int) = ((N - A : Nat) : Int) by omega]
 have w2 : IntKind.i64.wrap ((A : Int) + (B : Int)) = ((A + B : Nat) : Int) := by rw [wrap64 (by omega) (by omega)]; omega
 rw [show ((0 : Nat) : Int) = (0 : Int) from rfl] at x1
 unfold top_TopForms
 simp only [g1, m1, w1, m2, w2, d1, x1, y1, z1, e1, b1, c1, fill_two, get_two, s1, s2, q1, s3, Option.bind_some, if_true]
end Ev
end Go.Proofs.YtmiaonncbefmmaaDoor
end
