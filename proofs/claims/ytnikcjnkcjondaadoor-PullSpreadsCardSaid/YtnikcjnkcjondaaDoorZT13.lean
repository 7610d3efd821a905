/- Texts of a claim, joined. -/
import Derived.Test.YtnikcjnkcjondaaDoorZT12
import Derived.Test.YtnikcjnkcjondaaDoorZT7
import Derived.Test.YtnikcjnkcjondaaDoorZT8
import Derived.Test.YtnikcjnkcjondaaDoorZT10
import Derived.Test.YtnikcjnkcjondaaDoorZT11
import Derived.Test.YtnikcjnkcjondaaDoorZT9
set_option linter.unusedVariables false
set_option linter.unusedSimpArgs false
section
namespace Go.Proofs.YtnikcjnkcjondaaDoor
namespace Ev
open Go
set_option linter.unusedVariables false
set_option linter.unusedSimpArgs false
theorem narrow_r (a : Int × Int) : i64r (narrowW a).1 := by
 unfold narrowW
 split
 ·exact i64_wrap _
 ·unfold i64r; omega
structure CE (K : Ed → Prop) (c : Nat) (E : List Ed) : Prop where
 few : E.length ≤ c
 rise : Rises E
 ends : ∀ x ∈ E, ∃ y, K y ∧ x.1 = y.1 ∧ x.2.1 = y.2.1
 vals : ∀ x ∈ E, i64r x.2.2
theorem narrow_loop (K : Ed → Prop) (P : Int × Int → Prop) (hP : ∀ a, P a → u64r a.2) (c : Nat) (E : List Ed) (S : List (Int × Int)) (h : CI K P c E S) (hc : c ≤ 5000) : ∃ r, loopO (ref05_Combine_b5 S) (E, 0) = some r ∧ ((r = .inr (⟨false, 0, []⟩, 12) ∧ ∃ x, P x ∧ (narrowW x).2 = false) ∨ ∃ E', r = .inl E' ∧ CE K c E') := by
 have hfew := h.few
 have hlen := h.len
 refine loop_up (b := ref05_Combine_b5 S) E.length (fun j a => ∃ X, a = (X, (j : Int)) ∧ X.length = E.length ∧ (∀ k (h1 : k < X.length) (h2 : k < E.length), X[k].1 = E[k].1 ∧ X[k].2.1 = E[k].2.1) ∧ ∀ k (h1 : k < X.length), k < j → i64r X[k].2.2) (fun r => (r = .inr (⟨false, 0, []⟩, 12) ∧ ∃ x, P x ∧ (narrowW x).2 = false) ∨ ∃ E', r = .inl E' ∧ CE K c E')
  (by
   rintro j _ hj ⟨X, rfl, hX, hk, hv⟩
   have hjX : j < X.length := by omega
   have hjS : j < S.length := by omega
   have hlo := hP _ (h.lo _ (List.getElem_mem hjS))
   simp only [ref05_Combine_b5, mo_at hjS, mo_at hjX, Option.bind_some, w_succ hj (by omega), Int.toNat_natCast]
   have hn : ref01_Narrow (S[j].1, S[j].2) = some (narrowW S[j]) := ref01_Narrow_eq hlo
   rw [if_pos (by omega), hn]
   cases hb : (narrowW S[j]).2 with
   | true =>
    refine .inl ⟨(X.set j (X[j].1, X[j].2.1, (narrowW S[j]).1), ((j + 1 : Nat) : Int)), ?_, _, rfl, by rw [List.length_set]; exact hX, fun k h1 h2 => ?_, fun k h1 hkj => ?_⟩
    ·show (if (narrowW S[j]).2 = true then _ else _) = _
     rw [if_pos hb]
    ·have h1' : k < X.length := by simpa using h1
     rw [set_get]
     by_cases e : j = k
     ·subst e; rw [if_pos rfl]; exact hk j h1' h2
     ·rw [if_neg e]; exact hk k h1' h2
    ·have h1' : k < X.length := by simpa using h1
     rw [set_get]
     by_cases e : j = k
     ·subst e; rw [if_pos rfl]; exact narrow_r _
     ·rw [if_neg e]; exact hv k h1' (by omega)
   | false =>
    refine .inr ⟨_, ?_, .inl ⟨rfl, S[j], h.lo _ (List.getElem_mem hjS), hb⟩⟩
    show (if (narrowW S[j]).2 = true then _ else _) = _
    rw [if_neg (by rw [hb]; simp)])
  (by
   rintro _ ⟨X, rfl, hX, hk, hv⟩
   simp only [ref05_Combine_b5]
   refine ⟨_, if_neg (by omega), .inr ⟨X, rfl, by omega, fun i j hi hj hij => ?_, fun x hx => ?_, fun x hx => ?_⟩⟩
   ·have e1 := hk i hi (by omega)
    have e2 := hk j hj (by omega)
    rw [below_keys e1.1 e1.2 e2.1 e2.2]
    exact h.rise i j (by omega) (by omega) hij
   ·obtain ⟨i, hi, rfl⟩ := List.getElem_of_mem hx
    have e1 := hk i hi (by omega)
    obtain ⟨y, y1, y2, y3⟩ := h.ends _ (List.getElem_mem (show i < E.length by omega))
    exact ⟨y, y1, e1.1.trans y2, e1.2.trans y3⟩
   ·obtain ⟨i, hi, rfl⟩ := List.getElem_of_mem hx
    exact hv i hi (by omega)) 0 (Nat.zero_le _) (E, 0) ⟨E, rfl, rfl, fun k _ _ => ⟨rfl, rfl⟩, fun k _ h => absurd h (by omega)⟩
theorem ref05_Combine_eq (r : Int) (s : Sl Ed) (hr : okR r = true) (hok : okS 3 s) (hl : s.l.length ≤ 5000) (K : Ed → Prop) (P : Int × Int → Prop) (hP : SumW r K P) (hK : ∀ x ∈ s.l, K x) : ∃ o, ref05_Combine r s = some o ∧ ((o = (⟨false, 0, []⟩, 12) ∧ ∃ x, P x ∧ (narrowW x).2 = false) ∨ ∃ E, o = (mo 3 E, 0) ∧ CE K s.l.length E) := by
 obtain ⟨E, S, h1, h2⟩ := comb_loop r s hok hl K P hP hK
 obtain ⟨q, h3, h4⟩ := narrow_loop K P hP.lo _ E S h2 hl
 unfold okR at hr
 unfold ref05_Combine
 simp only [ref02_Is_eq, hr, Option.bind_some, if_true, h1, Sum.elim_inl, h3]
 rcases h4 with ⟨rfl, hx⟩ | ⟨E', rfl, h5⟩
 ·exact ⟨_, rfl, .inl ⟨rfl, hx⟩⟩
 ·exact ⟨_, rfl, .inr ⟨E', rfl, h5⟩⟩
def GoodV (v : Int × Sl It) : Prop := rightB v = true ∧ okS 2 v.2 ∧ ∀ x ∈ v.2.l, i64r x.2
theorem good_nil : GoodV (0, nilS) := ⟨rfl, ok_nil, fun x hx => by simp [nilS] at hx⟩
def KOf (n : Int) (Q : Int → Prop) (y : Ed) : Prop := y.1 = 0 ∧ 0 ≤ y.2.1 ∧ y.2.1 < n ∧ Q y.2.2
theorem ref09_Of_any (r n : Int) (s : Sl It) (hr : okR r = true) (hok : okS 2 s) (h0 : 0 ≤ n) (hn : n ≤ 4096) (hl : s.l.length ≤ 5000) (Q : Int → Prop) (hs : ∀ x ∈ s.l, 0 ≤ x.1 ∧ x.1 < n ∧ Q x.2) (P : Int × Int → Prop) (hP : SumW r (KOf n Q) P) : ∃ v e, ref09_Of r n s = some (v, e) ∧ GoodV v ∧ (v.1 = n ∨ ∃ x, P x ∧ (narrowW x).2 = false) := by
 have hr' := hr
 unfold okR at hr'
 unfold ref09_Of
 simp only [ref02_Is_eq, hr', Option.bind_some, if_true]
 rw [if_neg (by omega), if_neg (by omega)]
 obtain ⟨q, h1, h2⟩ := loop_up (b := ref09_Of_b1 n s) s.l.length (fun j a => a = ((s.l.take j).map (fun x => ((0, x.1, x.2) : Ed)), (j : Int))) (fun q => q = .inl (s.l.map fun x => ((0, x.1, x.2) : Ed)))
  (by
   rintro j _ hj rfl
   have hx := hs _ (List.getElem_mem hj)
   have ha : app ((s.l.take j).map (fun x => ((0, x.1, x.2) : Ed))) [(0, s.l[j].1, s.l[j].2)] = some ((s.l.take j).map (fun x => ((0, x.1, x.2) : Ed)) ++ [(0, s.l[j].1, s.l[j].2)]) := app_ok (by simp; unfold bound; omega)
   simp only [ref09_Of_b1, at_get hok hj, Option.bind_some, w_succ hj (by omega), ha]
   rw [if_pos (by omega), if_neg (by omega), if_neg (by omega)]
   refine .inl ⟨_, rfl, ?_⟩
   rw [List.take_succ_eq_append_getElem hj, List.map_append]; rfl)
  (by
   rintro _ rfl
   exact ⟨_, if_neg (by omega), by rw [List.take_length]⟩) 0 (Nat.zero_le _) ([], 0) rfl
 subst h2
 rw [h1]
 simp only [Option.bind_some, Sum.elim_inl]
 obtain ⟨o, h3, h4⟩ := ref05_Combine_eq r (mo 3 (s.l.map fun x => ((0, x.1, x.2) : Ed))) hr (ok_mo _) (by rw [mo_l]; simpa using hl) (KOf n Q) P hP (fun x hx => by
  rw [mo_l] at hx
  obtain ⟨y, hy, rfl⟩ := List.mem_map.1 hx
  exact ⟨rfl, hs y hy⟩)
 rw [h3]
 rcases h4 with ⟨rfl, hbad⟩ | ⟨E, rfl, hE⟩
 ·exact ⟨_, _, rfl, good_nil, .inr hbad⟩
 have hfew : E.length ≤ 5000 := by have := hE.few; rw [mo_l] at this; simp at this; omega
 simp only [Option.bind_some, ne_eq, not_true, if_false]
 obtain ⟨q, h5, h6⟩ := loop_up (b := ref09_Of_b2 (mo 3 E)) E.length (fun j a => a = ((j : Int), (E.take j).map (fun x => ((x.2.1, x.2.2) : It)))) (fun q => q = .inl (E.map fun x => ((x.2.1, x.2.2) : It)))
  (by
   rintro j _ hj rfl
   have ha : app ((E.take j).map (fun x => ((x.2.1, x.2.2) : It))) [(E[j].2.1, E[j].2.2)] = some ((E.take j).map (fun x => ((x.2.1, x.2.2) : It)) ++ [(E[j].2.1, E[j].2.2)]) := app_ok (by simp; unfold bound; omega)
   simp only [ref09_Of_b2, mo_at hj, mo_l, Option.bind_some, w_succ hj (by omega), ha]
   rw [if_pos (by omega)]
   refine .inl ⟨_, rfl, ?_⟩
   rw [List.take_succ_eq_append_getElem hj, List.map_append]; rfl)
  (by
   rintro _ rfl
   simp only [ref09_Of_b2, mo_l]
   exact ⟨_, if_neg (by omega), by rw [List.take_length]⟩) 0 (Nat.zero_le _) (0, []) rfl
 subst h6
 rw [h5]
 refine ⟨_, _, rfl, ⟨?_, ok_mo _, fun x hx => ?_⟩, .inl rfl⟩
 ·simp only [rightB, sizeB, mo_l, decide_eq_true h0, decide_eq_true hn, Bool.true_and]
  refine asc_iff'.2 fun j hj => ?_
  have hjE : j < E.length := by simpa using hj
  obtain ⟨y, ⟨y1, y2, y3, _⟩, y4, y5⟩ := hE.ends _ (List.getElem_mem hjE)
  simp only [List.getElem_map]
  refine ⟨by omega, by omega, fun hj0 => ?_⟩
  obtain ⟨z, ⟨z1, z2, z3, _⟩, z4, z5⟩ := hE.ends _ (List.getElem_mem (show j - 1 < E.length by omega))
  have := hE.rise (j - 1) j (by omega) hjE (by omega)
  simp only [belowB, Bool.or_eq_true, Bool.and_eq_true, decide_eq_true_eq] at this
  omega
 ·rw [mo_l] at hx
  obtain ⟨y, hy, rfl⟩ := List.mem_map.1 hx
  exact hE.vals y hy
def OfN (a : Int × Int) : Prop := ∃ n, i64r n ∧ a = ofW n
theorem pw_min (n : Int) : SumW 1 (KOf n i64r) OfN := ⟨fun a h => by obtain ⟨m, _, rfl⟩ := h; exact ofW_lo _, fun y hy => ⟨_, hy.2.2.2, rfl⟩, fun a b ha hb => by
 unfold ringAdd lessrW
 rw [if_pos (.inl rfl)]
 split
 ·exact hb
 ·exact ha⟩
theorem ofN_narrow {a : Int × Int} (h : OfN a) : (narrowW a).2 = true := by
 obtain ⟨m, hm, rfl⟩ := h
 unfold narrowW
 have e : IntKind.i64.wrap (ofW m).2 = m := by show IntKind.i64.wrap (IntKind.u64.wrap m) = m; rw [wrap_u64, IntKind.wrap_i64]; unfold i64r at hm; omega
 rw [e, if_pos rfl]
theorem ref09_Of_min (n : Int) (s : Sl It) (hok : okS 2 s) (h0 : 0 ≤ n) (hn : n ≤ 4096) (hl : s.l.length ≤ 5000) (hs : ∀ x ∈ s.l, 0 ≤ x.1 ∧ x.1 < n ∧ i64r x.2) : ∃ v e, ref09_Of 1 n s = some (v, e) ∧ GoodV v ∧ v.1 = n := by
 obtain ⟨v, e, h1, h2, h3⟩ := ref09_Of_any 1 n s (by decide) hok h0 hn hl i64r hs _ (pw_min n)
 refine ⟨v, e, h1, h2, h3.resolve_right ?_⟩
 rintro ⟨x, hx, hb⟩
 rw [ofN_narrow hx] at hb
 simp at hb
end Ev
end Go.Proofs.YtnikcjnkcjondaaDoor
end
section
namespace Go.Proofs.YtnikcjnkcjondaaDoor
namespace Ev
open Go
set_option linter.unusedVariables false
set_option linter.unusedSimpArgs false
theorem lessW_iff (a b : Int × Int) : lessW a b = true ↔ a.1 < b.1 ∨ a.1 = b.1 ∧ a.2 < b.2 := by unfold lessW; simp
theorem addW_eq {a b : Int × Int} (ha : u64r a.2) (hb : u64r b.2) : addW a b = ((a.1 + b.1 + (a.2 + b.2) / 18446744073709551616 + 9223372036854775808) % 18446744073709551616 - 9223372036854775808, (a.2 + b.2) % 18446744073709551616) := by
 unfold u64r at ha hb
 unfold addW
 simp only [wrap_u64, IntKind.wrap_i64]
 split
 ·refine Prod.ext ?_ rfl; simp only; omega
 ·refine Prod.ext ?_ rfl; simp only; omega
theorem asc_low {n : Int} {l : List It} {a b : Int} (hab : a ≤ b) (h : asc b n l = true) : asc a n l = true := by
 cases l with
 | nil => rfl
 | cons x l =>
  simp only [asc, Bool.and_eq_true, decide_eq_true_eq] at h ⊢
  exact ⟨⟨by omega, h.1.2⟩, h.2⟩
end Ev
end Go.Proofs.YtnikcjnkcjondaaDoor
end
section
namespace Go.Proofs.YtnikcjnkcjondaaDoor
namespace Ev
open Go
set_option linter.unusedVariables false
set_option linter.unusedSimpArgs false
def toW (z : Int) : Int × Int := ((z / 18446744073709551616 + 9223372036854775808) % 18446744073709551616 - 9223372036854775808, z % 18446744073709551616)
theorem toW_lo (z : Int) : u64r (toW z).2 := by unfold toW u64r; simp only; omega
theorem ofW_toW {n : Int} (h : i64r n) : ofW n = toW n := by
 unfold ofW toW i64r at *
 rw [wrap_u64]
 refine Prod.ext ?_ rfl
 simp only
 split <;> omega
theorem toW_add (a b : Int) : addW (toW a) (toW b) = toW (a + b) := by
 rw [addW_eq (toW_lo a) (toW_lo b)]
 unfold toW
 refine Prod.ext ?_ ?_ <;> simp only <;> omega
theorem toW_period (z k : Int) : toW (z + k * 340282366920938463463374607431768211456) = toW z := by
 unfold toW
 refine Prod.ext ?_ ?_ <;> simp only <;> omega
theorem wide_Add_toW (a b : Int) : wide_Add (toW a) (toW b) = some (toW (a + b)) := by rw [wide_Add_eq, toW_add]
theorem and_low {n : Int} (h : u64r n) : andI .u64 n 4294967295 = n % 4294967296 := by
 obtain ⟨h0, h1⟩ := h
 obtain ⟨m, rfl⟩ := Int.eq_ofNat_of_zero_le h0
 unfold andI
 have hb : IntKind.u64.bits = 64 := rfl
 rw [hb, wrap_u64]
 have e1 : (BitVec.ofInt 64 (m : Int)).toNat = m := by rw [BitVec.toNat_ofInt]; omega
 have e2 : (BitVec.ofInt 64 4294967295).toNat = 2 ^ 32 - 1 := by decide
 rw [BitVec.toNat_and, e1, e2, Nat.and_two_pow_sub_one_eq_mod]
 omega
theorem shr_32 {n : Int} (h : u64r n) : shr1 .u64 n 32 = some (n / 4294967296) := by
 unfold shr1 shrI
 rw [if_pos (by decide)]
 have e : (2 : Int) ^ (min (32 : Int).toNat IntKind.u64.bits) = 4294967296 := by decide
 rw [e, Int.fdiv_eq_ediv_of_nonneg _ (by decide)]
theorem prod_le {a b : Int} (ha : 0 ≤ a) (ha' : a ≤ 4294967295) (hb : 0 ≤ b) (hb' : b ≤ 4294967295) : 0 ≤ a * b ∧ a * b ≤ 18446744065119617025 :=
 ⟨Int.mul_nonneg ha hb, by have := Int.mul_le_mul ha' hb' hb (by decide); omega⟩
theorem wide_products_eq {a b : Int} (ha : u64r a) (hb : u64r b) : wide_products a b = some ((a % 4294967296) * (b % 4294967296), (a % 4294967296) * (b / 4294967296), (a / 4294967296) * (b % 4294967296), (a / 4294967296) * (b / 4294967296)) := by
 unfold wide_products
 rw [shr_32 ha, shr_32 hb]
 simp only [Option.bind_some, and_low ha, and_low hb]
 unfold u64r at ha hb
 have w : ∀ {x y : Int}, 0 ≤ x → x ≤ 4294967295 → 0 ≤ y → y ≤ 4294967295 → IntKind.u64.wrap (x * y) = x * y := fun h1 h2 h3 h4 => by
  have := prod_le h1 h2 h3 h4
  rw [wrap_u64]; exact Int.emod_eq_of_lt this.1 (by omega)
 rw [w (by omega) (by omega) (by omega) (by omega), w (by omega) (by omega) (by omega) (by omega), w (by omega) (by omega) (by omega) (by omega), w (by omega) (by omega) (by omega) (by omega)]
theorem wide_Left_32 {n : Int} (h : u64r n) : wide_Left (0, n) 32 = some (toW (n * 4294967296)) := by
 unfold wide_Left
 simp only
 rw [if_neg (by decide), if_neg (by decide), if_neg (by decide)]
 have e1 : IntKind.u64.wrap 0 = 0 := by decide
 have e2 : IntKind.u64.wrap 32 = 32 := by decide
 have e3 : IntKind.u64.wrap (IntKind.i64.wrap (64 - 32)) = 32 := by decide
 rw [e1, e2, e3, shr_32 h]
 unfold shl1 shlI
 have e : (2 : Int) ^ (min (32 : Int).toNat IntKind.u64.bits) = 4294967296 := by decide
 simp only [e, Option.bind_some, if_pos (show (0 : Int) ≤ 32 by decide), Int.zero_mul, e1]
 have hor : orI .u64 0 (n / 4294967296) = n / 4294967296 := by
  unfold u64r at h
  obtain ⟨m, hm⟩ := Int.eq_ofNat_of_zero_le (show 0 ≤ n / 4294967296 by omega)
  rw [hm]
  unfold orI
  have hb : IntKind.u64.bits = 64 := rfl
  have e0 : BitVec.ofInt 64 0 = 0#64 := by decide
  rw [hb, wrap_u64, e0, BitVec.zero_or, BitVec.toNat_ofInt]
  omega
 rw [hor, IntKind.wrap_i64, wrap_u64]
 unfold toW
 unfold u64r at h
 congr 1
 refine Prod.ext ?_ ?_ <;> simp only <;> omega
theorem wide_Mul_eq {x y : Int} (hx : i64r x) (hy : i64r y) : wide_Mul x y = some (toW (x * y)) := by
 unfold wide_Mul
 have hux := u64_wrap x
 have huy := u64_wrap y
 have gx : IntKind.u64.wrap x = x + (if x < 0 then 18446744073709551616 else 0) := by rw [wrap_u64]; unfold i64r at hx; split <;> omega
 have gy : IntKind.u64.wrap y = y + (if y < 0 then 18446744073709551616 else 0) := by rw [wrap_u64]; unfold i64r at hy; split <;> omega
 generalize hX : IntKind.u64.wrap x = X at hux gx
 generalize hY : IntKind.u64.wrap y = Y at huy gy
 rw [wide_products_eq hux huy]
 simp only [Option.bind_some]
 unfold u64r at hux huy
 generalize ha : X % 4294967296 = a
 generalize hA : X / 4294967296 = A
 generalize hb : Y % 4294967296 = b
 generalize hB : Y / 4294967296 = B
 have hXe : X = A * 4294967296 + a := by omega
 have hYe : Y = B * 4294967296 + b := by omega
 have p0 := prod_le (a := a) (b := b) (by omega) (by omega) (by omega) (by omega)
 have p1 := prod_le (a := a) (b := B) (by omega) (by omega) (by omega) (by omega)
 have p2 := prod_le (a := A) (b := b) (by omega) (by omega) (by omega) (by omega)
 have p3 := prod_le (a := A) (b := B) (by omega) (by omega) (by omega) (by omega)
 have hXY : X * Y = (A * B) * 18446744073709551616 + (a * B + A * b) * 4294967296 + a * b := by
  rw [hXe, hYe, Int.add_mul, Int.mul_add, Int.mul_add]
  have q1 : A * 4294967296 * (B * 4294967296) = A * B * 18446744073709551616 := by
   rw [Int.mul_assoc, Int.mul_left_comm 4294967296 B, ← Int.mul_assoc]; rfl
  have q2 : A * 4294967296 * b = A * b * 4294967296 := by rw [Int.mul_assoc, Int.mul_comm 4294967296 b, ← Int.mul_assoc]
  have q3 : a * (B * 4294967296) = a * B * 4294967296 := by rw [Int.mul_assoc]
  rw [q1, q2, q3]
  omega
 generalize hab : a * b = ab at *
 generalize haB : a * B = aB at *
 generalize hAb : A * b = Ab at *
 generalize hAB : A * B = AB at *
 rw [wide_Left_32 (n := aB) ⟨by omega, by omega⟩]
 simp only [Option.bind_some]
 have e0 : ((IntKind.i64.wrap AB, ab) : Int × Int) = toW (AB * 18446744073709551616 + ab) := by
  rw [IntKind.wrap_i64]; unfold toW
  refine Prod.ext ?_ ?_ <;> simp only <;> omega
 rw [e0, show ((toW (aB * 4294967296)).1, (toW (aB * 4294967296)).2) = toW (aB * 4294967296) from rfl, wide_Add_toW]
 simp only [Option.bind_some]
 rw [wide_Left_32 (n := Ab) ⟨by omega, by omega⟩]
 simp only [Option.bind_some]
 rw [show ∀ z, ((toW z).1, (toW z).2) = toW z from fun _ => rfl, show ∀ z, ((toW z).1, (toW z).2) = toW z from fun _ => rfl, wide_Add_toW]
 simp only [Option.bind_some]
 have e1 : AB * 18446744073709551616 + ab + aB * 4294967296 + Ab * 4294967296 = X * Y := by omega
 rw [e1]
 have hsub : ∀ z w : Int, (IntKind.i64.wrap ((toW z).1 - w), (toW z).2) = toW (z - w * 18446744073709551616) := fun z w => by
  rw [IntKind.wrap_i64]; unfold toW
  refine Prod.ext ?_ ?_ <;> simp only <;> omega
 have hsub2 : ∀ z w v : Int, (IntKind.i64.wrap (IntKind.i64.wrap ((toW z).1 - w) - v), (toW z).2) = toW (z - w * 18446744073709551616 - v * 18446744073709551616) := fun z w v => by
  rw [IntKind.wrap_i64, IntKind.wrap_i64]; unfold toW
  refine Prod.ext ?_ ?_ <;> simp only <;> omega
 by_cases hx0 : x < 0
 ·rw [if_pos hx0]
  rw [if_pos hx0] at gx
  by_cases hy0 : y < 0
  ·rw [if_pos hy0, hsub2]
   rw [if_pos hy0] at gy
   have : X * Y - y * 18446744073709551616 - x * 18446744073709551616 = x * y + 1 * 340282366920938463463374607431768211456 := by
    rw [gx, gy, Int.add_mul, Int.mul_add, Int.mul_add]
    rw [Int.mul_comm x 18446744073709551616]
    omega
   rw [this, toW_period]
  ·rw [if_neg hy0, hsub]
   rw [if_neg hy0] at gy
   have : X * Y - y * 18446744073709551616 = x * y := by
    rw [gx, gy, Int.add_zero, Int.add_mul, Int.mul_comm 18446744073709551616 y]; omega
   rw [this]
 ·rw [if_neg hx0]
  rw [if_neg hx0] at gx
  by_cases hy0 : y < 0
  ·rw [if_pos hy0, hsub]
   rw [if_pos hy0] at gy
   have : X * Y - x * 18446744073709551616 = x * y := by
    rw [gx, gy, Int.add_zero, Int.mul_add]; omega
   rw [this]
  ·rw [if_neg hy0]
   rw [if_neg hy0] at gy
   rw [gx, gy, Int.add_zero, Int.add_zero]
def infI : Int := 4611686018427387904
def ringMul (r x y : Int) : Int × Int :=
 if r = 1 then (if infI ≤ x ∨ infI ≤ y then ofW infI else lessrW (toW (x + y)) (ofW infI))
 else if r = 2 then truthW (!decide (x = 0) && !decide (y = 0))
 else if r = 4 then (if infI ≤ x ∨ infI ≤ y then ofW infI else ofW y)
 else if r = 3 then (if infI ≤ x ∨ infI ≤ y then ofW infI else ofW x)
 else if r = 5 then toW (x * y) else (0, 0)
theorem inf_r : i64r infI := by unfold i64r infI; omega
theorem ring_Mul_eq (r : Int) {x y : Int} (hx : i64r x) (hy : i64r y) : ring_Mul r x y = some (ringMul r x y) := by
 have hi := inf_r
 unfold ring_Mul ringMul
 have hI : (4611686018427387904 : Int) = infI := rfl
 rw [hI]
 by_cases h1 : r = 1
 ·rw [if_pos h1, if_pos h1]
  by_cases c1 : x ≥ infI
  ·rw [if_pos c1, if_pos (.inl c1), wide_Of_eq hi]; rfl
  ·rw [if_neg c1]
   by_cases c2 : y ≥ infI
   ·rw [if_pos c2, if_pos (.inr c2), wide_Of_eq hi]; rfl
   ·rw [if_neg c2, if_neg (by omega), wide_Of_eq hx, wide_Of_eq hy]
    simp only [Option.bind_some]
    rw [show ∀ z, ((ofW z).1, (ofW z).2) = ofW z from fun _ => rfl, show ∀ z, ((ofW z).1, (ofW z).2) = ofW z from fun _ => rfl, ofW_toW hx, ofW_toW hy, wide_Add_toW]
    simp only [Option.bind_some]
    rw [wide_Of_eq hi]
    simp only [Option.bind_some]
    rw [show ∀ z, ((ofW z).1, (ofW z).2) = ofW z from fun _ => rfl, show ∀ z, ((toW z).1, (toW z).2) = toW z from fun _ => rfl, ring_lesser_eq]; rfl
 ·rw [if_neg h1, if_neg h1]
  by_cases h2 : r = 2
  ·rw [if_pos h2, if_pos h2]
   by_cases c1 : x = 0
   ·rw [if_neg (by simpa using c1), ring_truth_eq]; simp [c1]
   ·rw [if_pos c1]
    by_cases c2 : y = 0
    ·rw [if_neg (by simpa using c2), ring_truth_eq]; simp [c2]
    ·rw [if_pos c2, ring_truth_eq]; simp [c1, c2]
  ·rw [if_neg h2, if_neg h2]
   by_cases h4 : r = 4
   ·rw [if_pos h4, if_pos h4]
    by_cases c2 : y ≥ infI
    ·rw [if_pos c2, if_pos (.inr c2), wide_Of_eq hi]; rfl
    ·rw [if_neg c2]
     by_cases c1 : x ≥ infI
     ·rw [if_pos c1, if_pos (.inl c1), wide_Of_eq hi]; rfl
     ·rw [if_neg c1, if_neg (by omega), wide_Of_eq hy]; rfl
   ·rw [if_neg h4, if_neg h4]
    by_cases h3 : r = 3
    ·rw [if_pos h3, if_pos h3]
     by_cases c1 : x ≥ infI
     ·rw [if_pos c1, if_pos (.inl c1), wide_Of_eq hi]; rfl
     ·rw [if_neg c1]
      by_cases c2 : y ≥ infI
      ·rw [if_pos c2, if_pos (.inr c2), wide_Of_eq hi]; rfl
      ·rw [if_neg c2, if_neg (by omega), wide_Of_eq hx]; rfl
    ·rw [if_neg h3, if_neg h3]
     by_cases h5 : r = 5
     ·rw [if_pos h5, if_pos h5, wide_Mul_eq hx hy]; rfl
     ·rw [if_neg h5, if_neg h5]
end Ev
end Go.Proofs.YtnikcjnkcjondaaDoor
end
section
namespace Go.Proofs.YtnikcjnkcjondaaDoor
namespace Ev
open Go
set_option linter.unusedVariables false
set_option linter.unusedSimpArgs false
theorem FL_eq3 : FL = some true := rfl
theorem i64_id {n : Int} (h : i64r n) : IntKind.i64.wrap (IntKind.u64.wrap n) = n := by rw [wrap_u64, IntKind.wrap_i64]; unfold i64r at h; omega
theorem narrow_of {n : Int} (h : i64r n) : narrowW (ofW n) = (n, true) := by
 unfold narrowW
 have e : IntKind.i64.wrap (ofW n).2 = n := i64_id h
 rw [e, if_pos rfl]
theorem getI_mem {n : Int} : ∀ {l : List It} {a : Int}, asc a n l = true → ∀ x ∈ l, getI x.1 l = some x.2
 | y :: l, a, h, x, hx => by
  simp only [asc, Bool.and_eq_true, decide_eq_true_eq] at h
  rcases List.mem_cons.1 hx with rfl | hx
  ·unfold getI; rw [if_pos rfl]
  ·unfold getI
   have := (asc_lt h.2 x hx).1
   rw [if_neg (by omega)]
   exact getI_mem h.2 x hx
theorem u8_of {n : Int} (h : inK .u8 n) : 0 ≤ n ∧ n ≤ 255 := by simpa [inK, Lit.wf, IntKind.min, IntKind.max, IntKind.signed, IntKind.bits] using h
end Ev
end Go.Proofs.YtnikcjnkcjondaaDoor
end
section
namespace Go.Proofs.YtnikcjnkcjondaaDoor
namespace Ev
open Go
set_option linter.unusedVariables false
set_option linter.unusedSimpArgs false
def hd : List It → List It → Int × Option Int × Option Int × List It × List It
 | [], [] => (0, none, none, [], [])
 | x :: l, [] => (x.1, some x.2, none, l, [])
 | [], y :: m => (y.1, none, some y.2, [], m)
 | x :: l, y :: m => if x.1 ≤ y.1 then (if y.1 ≤ x.1 then (y.1, some x.2, some y.2, l, m) else (x.1, some x.2, none, l, y :: m)) else (y.1, none, some y.2, x :: l, m)
theorem hd_len {l m : List It} (h : ¬ (l = [] ∧ m = [])) : (hd l m).2.2.2.1.length + (hd l m).2.2.2.2.length < l.length + m.length := by
 cases l with
 | nil =>
  cases m with
  | nil => simp at h
  | cons y m => simp [hd]
 | cons x l =>
  cases m with
  | nil => simp [hd]
  | cons y m =>
   simp only [hd]
   split
   ·split <;> simp <;> omega
   ·simp
def mrgN (f : Option Int → Option Int → Option (Option Int)) : Nat → List It → List It → Option (List It)
 | 0, _, _ => some []
 | k + 1, l, m =>
  if l.isEmpty && m.isEmpty then some [] else
  match f (hd l m).2.1 (hd l m).2.2.1 with
  | none => none
  | some none => mrgN f k (hd l m).2.2.2.1 (hd l m).2.2.2.2
  | some (some v) => (mrgN f k (hd l m).2.2.2.1 (hd l m).2.2.2.2).map fun r => ((hd l m).1, v) :: r
def mrg (f : Option Int → Option Int → Option (Option Int)) (l m : List It) : Option (List It) := mrgN f (l.length + m.length) l m
theorem getI_lt {n : Int} {l : List It} {a p : Int} (h : asc a n l = true) (hp : p ≤ a) : getI p l = none := getI_none fun x hx => by have := asc_lt h x hx; omega
theorem getI_ge {n : Int} {l : List It} {a p : Int} (h : asc a n l = true) (hp : n ≤ p) : getI p l = none := getI_none fun x hx => by have := asc_lt h x hx; omega
theorem hd_spec {n a : Int} {l m : List It} (hl : asc a n l = true) (hm : asc a n m = true) (h : ¬ (l = [] ∧ m = [])) :
  a < (hd l m).1 ∧ (hd l m).1 < n ∧ (hd l m).2.1 = getI (hd l m).1 l ∧ (hd l m).2.2.1 = getI (hd l m).1 m ∧ asc (hd l m).1 n (hd l m).2.2.2.1 = true ∧ asc (hd l m).1 n (hd l m).2.2.2.2 = true ∧
  (∀ q, q ≠ (hd l m).1 → getI q l = getI q (hd l m).2.2.2.1 ∧ getI q m = getI q (hd l m).2.2.2.2) ∧ ∀ q, q < (hd l m).1 → getI q l = none ∧ getI q m = none := by
 cases l with
 | nil =>
  cases m with
  | nil => simp at h
  | cons y m =>
   simp only [asc, Bool.and_eq_true, decide_eq_true_eq] at hm
   refine ⟨hm.1.1, hm.1.2, rfl, by simp [hd, getI], rfl, hm.2, fun q hq => ⟨rfl, ?_⟩, fun q hq => ⟨rfl, ?_⟩⟩
   ·simp only [hd] at hq; simp only [hd, getI]; rw [if_neg (fun e => hq e.symm)]
   ·simp only [hd] at hq
    refine getI_none fun x hx => ?_
    rcases List.mem_cons.1 hx with rfl | hx
    ·omega
    ·have := asc_lt hm.2 x hx; omega
 | cons x l =>
  simp only [asc, Bool.and_eq_true, decide_eq_true_eq] at hl
  have nl : ∀ q, q < x.1 → getI q (x :: l) = none := fun q hq => getI_none fun z hz => by
   rcases List.mem_cons.1 hz with rfl | hz
   ·omega
   ·have := asc_lt hl.2 z hz; omega
  cases m with
  | nil =>
   refine ⟨hl.1.1, hl.1.2, by simp [hd, getI], rfl, hl.2, rfl, fun q hq => ⟨?_, rfl⟩, fun q hq => ⟨nl q hq, rfl⟩⟩
   simp only [hd] at hq; simp only [hd, getI]; rw [if_neg (fun e => hq e.symm)]
  | cons y m =>
   have hm0 := hm
   simp only [asc, Bool.and_eq_true, decide_eq_true_eq] at hm
   have nm : ∀ q, q < y.1 → getI q (y :: m) = none := fun q hq => getI_none fun z hz => by
    rcases List.mem_cons.1 hz with rfl | hz
    ·omega
    ·have := asc_lt hm.2 z hz; omega
   simp only [hd]
   by_cases c1 : x.1 ≤ y.1
   ·rw [if_pos c1]
    by_cases c2 : y.1 ≤ x.1
    ·rw [if_pos c2]
     have e : x.1 = y.1 := by omega
     refine ⟨hm.1.1, hm.1.2, by simp only [getI]; rw [if_pos e], by simp [getI], by rw [← e]; exact hl.2, hm.2, fun q hq => ⟨?_, ?_⟩, fun q hq => ⟨nl q (by simp only at hq; omega), nm q hq⟩⟩
     ·simp only [getI]; rw [if_neg (by simp only at hq; omega)]
     ·simp only [getI]; rw [if_neg (by simp only at hq; omega)]
    ·rw [if_neg c2]
     refine ⟨hl.1.1, hl.1.2, by simp [getI], (nm _ (by omega)).symm, hl.2, ?_, fun q hq => ⟨?_, rfl⟩, fun q hq => ⟨nl q hq, nm q (by simp only at hq; omega)⟩⟩
     ·simp only [asc, Bool.and_eq_true, decide_eq_true_eq]; exact ⟨⟨by omega, hm.1.2⟩, hm.2⟩
     ·simp only [getI]; rw [if_neg (by simp only at hq; omega)]
   ·rw [if_neg c1]
    refine ⟨hm.1.1, hm.1.2, (nl _ (by omega)).symm, by simp [getI], ?_, hm.2, fun q hq => ⟨rfl, ?_⟩, fun q hq => ⟨nl q (by simp only at hq; omega), nm q hq⟩⟩
    ·simp only [asc, Bool.and_eq_true, decide_eq_true_eq]; exact ⟨⟨by omega, hl.1.2⟩, hl.2⟩
    ·simp only [getI]; rw [if_neg (by simp only at hq; omega)]
theorem mrg_spec {f : Option Int → Option Int → Option (Option Int)} (f0 : f none none = some none) {n : Int} : ∀ (k : Nat) {a : Int} {l m : List It}, l.length + m.length ≤ k → asc a n l = true → asc a n m = true →
  (mrgN f k l m = none → ∃ p, f (getI p l) (getI p m) = none) ∧ ∀ r, mrgN f k l m = some r → asc a n r = true ∧ ∀ p, f (getI p l) (getI p m) = some (getI p r)
 | 0, a, l, m, hk, hl, hm => by
  have e1 : l = [] := List.length_eq_zero_iff.1 (by omega)
  have e2 : m = [] := List.length_eq_zero_iff.1 (by omega)
  subst e1 e2
  exact ⟨fun h => by simp [mrgN] at h, fun r h => by simp only [mrgN, Option.some.injEq] at h; subst h; exact ⟨rfl, fun p => f0⟩⟩
 | k + 1, a, l, m, hk, hl, hm => by
  by_cases he : l = [] ∧ m = []
  ·obtain ⟨rfl, rfl⟩ := he
   exact ⟨fun h => by simp [mrgN] at h, fun r h => by simp only [mrgN, List.isEmpty_nil, Bool.and_self, ite_true, Option.some.injEq] at h; subst h; exact ⟨rfl, fun p => f0⟩⟩
  ·obtain ⟨s1, s2, s3, s4, s5, s6, s7, s8⟩ := hd_spec hl hm he
   have hlen := hd_len he
   have ih := mrg_spec f0 k (a := (hd l m).1) (l := (hd l m).2.2.2.1) (m := (hd l m).2.2.2.2) (by omega) s5 s6
   have hu : mrgN f (k + 1) l m = (match f (hd l m).2.1 (hd l m).2.2.1 with
     | none => none
     | some none => mrgN f k (hd l m).2.2.2.1 (hd l m).2.2.2.2
     | some (some v) => (mrgN f k (hd l m).2.2.2.1 (hd l m).2.2.2.2).map fun r => ((hd l m).1, v) :: r) := by
    show (if (l.isEmpty && m.isEmpty) = true then _ else _) = _
    rw [if_neg (by simpa [List.isEmpty_iff] using he)]
   rw [hu]
   have back : ∀ p, f (getI p (hd l m).2.2.2.1) (getI p (hd l m).2.2.2.2) = none → f (getI p l) (getI p m) = none := fun p hp => by
    by_cases hq : p = (hd l m).1
    ·rw [hq, getI_lt s5 (Int.le_refl _), getI_lt s6 (Int.le_refl _), f0] at hp; simp at hp
    ·rw [(s7 p hq).1, (s7 p hq).2]; exact hp
   have fore : ∀ {r : List It}, asc (hd l m).1 n r = true → (∀ p, f (getI p (hd l m).2.2.2.1) (getI p (hd l m).2.2.2.2) = some (getI p r)) → ∀ p, p ≠ (hd l m).1 → f (getI p l) (getI p m) = some (getI p r) := fun hr h p hp => by
    rw [(s7 p hp).1, (s7 p hp).2]; exact h p
   cases hf : f (hd l m).2.1 (hd l m).2.2.1 with
   | none =>
    refine ⟨fun _ => ⟨(hd l m).1, by rw [← s3, ← s4]; exact hf⟩, fun r h => by simp at h⟩
   | some w =>
    cases w with
    | none =>
     refine ⟨fun h => let ⟨p, hp⟩ := ih.1 h; ⟨p, back p hp⟩, fun r h => ?_⟩
     obtain ⟨h1, h2⟩ := ih.2 r h
     refine ⟨asc_low (by omega) h1, fun p => ?_⟩
     by_cases hp : p = (hd l m).1
     ·rw [hp, ← s3, ← s4, hf, getI_lt h1 (Int.le_refl _)]
     ·exact fore h1 h2 p hp
    | some v =>
     refine ⟨fun h => ?_, fun r h => ?_⟩
     ·simp only [Option.map_eq_none_iff] at h
      obtain ⟨p, hp⟩ := ih.1 h
      exact ⟨p, back p hp⟩
     ·simp only [Option.map_eq_some_iff] at h
      obtain ⟨r', h0, rfl⟩ := h
      obtain ⟨h1, h2⟩ := ih.2 r' h0
      refine ⟨by simp only [asc, Bool.and_eq_true, decide_eq_true_eq]; exact ⟨⟨s1, s2⟩, h1⟩, fun p => ?_⟩
      by_cases hp : p = (hd l m).1
      ·rw [hp, ← s3, ← s4, hf]; simp [getI]
      ·rw [fore h1 h2 p hp]; simp only [getI]; rw [if_neg (fun e => hp e.symm)]
theorem asc_ext {n : Int} {l m : List It} (h0 : 0 ≤ n) (hl : asc (-1) n l = true) (hm : asc (-1) n m = true) (h : ∀ p : Nat, getI (p : Int) l = getI (p : Int) m) : l = m := by
 have e1 := asc_gath (a := 0) (k := n.toNat) (by simpa using hl) (by omega)
 have e2 := asc_gath (a := 0) (k := n.toNat) (by simpa using hm) (by omega)
 rw [e1, e2]
 exact gathR_congr fun p _ _ => h p
end Ev
end Go.Proofs.YtnikcjnkcjondaaDoor
end
section
namespace Go.Proofs.YtnikcjnkcjondaaDoor
namespace Ev
open Go
set_option linter.unusedVariables false
set_option linter.unusedSimpArgs false
theorem app_one {o : List It} (ho : o.length ≤ 100000) (z : It) : app o [z] = some (o ++ [z]) := app_ok (by simp; unfold bound; omega)
def fitO (w : Int × Int) : Option (Option Int) := if (narrowW w).2 = true then some (some (narrowW w).1) else none
def fU (r : Int) : Option Int → Option Int → Option (Option Int)
 | none, none => some none
 | some x, none => some (some x)
 | none, some y => some (some y)
 | some x, some y => fitO (ringAdd r (ofW x) (ofW y))
def blendV (f : Option Int → Option Int → Option (Option Int)) (v w : Int × Sl It) : (Int × Sl It) × Int :=
 if (sureV v).1 ≠ (sureV w).1 then ((0, nilS), 4) else match mrg f (sureV v).2.l (sureV w).2.l with
 | none => ((0, nilS), 12)
 | some r => (((sureV v).1, mo 2 r), 0)
end Ev
end Go.Proofs.YtnikcjnkcjondaaDoor
end
section
namespace Go.Proofs.YtnikcjnkcjondaaDoor
namespace Ev
open Go
set_option linter.unusedVariables false
set_option linter.unusedSimpArgs false
def SpecR (f : Option Int → Option Int → Option (Option Int)) (n : Int) (l m : List It) (q : Option (List It)) : Prop :=
 (q = none → ∃ p, f (getI p l) (getI p m) = none) ∧ ∀ r, q = some r → asc (-1) n r = true ∧ ∀ p, f (getI p l) (getI p m) = some (getI p r)
theorem SpecR.uniq {f : Option Int → Option Int → Option (Option Int)} {n : Int} {l m : List It} {q q' : Option (List It)} (h0 : 0 ≤ n) (h : SpecR f n l m q) (h' : SpecR f n l m q') : q = q' := by
 cases q with
 | none =>
  obtain ⟨p, hp⟩ := h.1 rfl
  cases q' with
  | none => rfl
  | some r =>
   have := (h'.2 r rfl).2 p
   rw [hp] at this; simp at this
 | some r =>
  obtain ⟨a, b⟩ := h.2 r rfl
  cases q' with
  | none =>
   obtain ⟨p, hp⟩ := h'.1 rfl
   rw [b p] at hp; simp at hp
  | some r' =>
   obtain ⟨a', b'⟩ := h'.2 r' rfl
   rw [asc_ext h0 a a' fun p => by have := b p; rw [b' p] at this; simpa using this.symm]
theorem mrg_SpecR {f : Option Int → Option Int → Option (Option Int)} (f0 : f none none = some none) {n : Int} {l m : List It} (hl : asc (-1) n l = true) (hm : asc (-1) n m = true) : SpecR f n l m (mrg f l m) := mrg_spec f0 _ (Nat.le_refl _) hl hm
theorem right_asc {v : Int × Sl It} (h : rightB v = true) : asc (-1) v.1 v.2.l = true := by unfold rightB at h; simp only [Bool.and_eq_true] at h; exact h.2
theorem right_sz {v : Int × Sl It} (h : rightB v = true) : 0 ≤ v.1 ∧ v.1 ≤ 4096 := right_size (n := v.1) (s := v.2) h
theorem getI_some {p y : Int} : ∀ {l : List It}, getI p l = some y → (p, y) ∈ l
 | [], h => by simp [getI] at h
 | x :: l, h => by
  unfold getI at h
  split at h
  ·rename_i c
   simp only [Option.some.injEq] at h
   subst h c; exact List.mem_cons_self
  ·exact List.mem_cons_of_mem _ (getI_some h)
theorem has_loop (s : Sl It) (p : Int) (hok : okS 2 s) (hl : s.l.length ≤ 9223372036854775807) : ∃ q, loopO (ref11_has_b1 s p) 0 = some q ∧ q = (match getI p s.l with | some x => .inr (x, true) | none => .inl ()) := by
 refine loop_up (b := ref11_has_b1 s p) s.l.length (fun j a => a = (j : Int) ∧ getI p s.l = getI p (s.l.drop j)) _
  (by
   rintro j _ hj ⟨rfl, hg⟩
   have hd := List.drop_eq_getElem_cons hj
   simp only [ref11_has_b1, at_get hok hj, Option.bind_some, w_succ hj hl]
   rw [if_pos (by omega)]
   by_cases c : s.l[j].1 = p
   ·refine .inr ⟨_, if_pos c, ?_⟩
    rw [hg, hd]
    simp only [getI]; rw [if_pos c]
   ·refine .inl ⟨_, if_neg c, rfl, ?_⟩
    rw [hg, hd]
    simp only [getI]; rw [if_neg c])
  (by
   rintro _ ⟨rfl, hg⟩
   refine ⟨_, if_neg (by omega), ?_⟩
   rw [hg, List.drop_length]; rfl) 0 (Nat.zero_le _) 0 ⟨rfl, by simp⟩
theorem ref11_has_eq (n : Int) (s : Sl It) (p : Int) (hok : okS 2 s) (hl : s.l.length ≤ 9223372036854775807) : ref11_has (n, s) p = some (encO (getI p s.l)) := by
 obtain ⟨q, h1, h2⟩ := has_loop s p hok hl
 unfold ref11_has
 simp only [h1, Option.bind_some]
 subst h2
 cases getI p s.l <;> rfl
abbrev RR := List It ⊕ ((Int × Sl It) × Int)
theorem app_few {o : List It} (ho : o.length ≤ 4096) (z : It) : app o [z] = some (o ++ [z]) := app_one (by omega) z
theorem u64_fit {w : Int × Int} (hw : u64r w.2) : ref01_Narrow w = some (narrowW w) := ref01_Narrow_eq hw
def joinF (q : Option (Option Int)) : Option Int := match q with | some v => v | none => none
theorem gath_SpecR {f : Option Int → Option Int → Option (Option Int)} (f0 : f none none = some none) {n : Int} {l m : List It} (h0 : 0 ≤ n) (hl : asc (-1) n l = true) (hm : asc (-1) n m = true) (hg : ∀ p : Nat, (p : Int) < n → f (getI p l) (getI p m) ≠ none) : SpecR f n l m (some (gathR 0 n.toNat fun p => joinF (f (getI p l) (getI p m)))) := by
 refine ⟨fun h => by simp at h, fun r h => ?_⟩
 simp only [Option.some.injEq] at h
 subst h
 have ha := gathR_asc 0 n.toNat (fun p => joinF (f (getI p l) (getI p m))) (-1) n (by omega) (by omega)
 refine ⟨ha, fun p => ?_⟩
 by_cases h1 : p < 0
 ·rw [getI_lt hl (by omega), getI_lt hm (by omega), getI_lt ha (by omega), f0]
 ·by_cases h2 : n ≤ p
  ·rw [getI_ge hl h2, getI_ge hm h2, getI_ge ha h2, f0]
  ·obtain ⟨k, rfl⟩ := Int.eq_ofNat_of_zero_le (show 0 ≤ p by omega)
   rw [getI_gath 0 n.toNat _ k (by omega) (by omega)]
   have := hg k (by omega)
   cases hf : f (getI k l) (getI k m) with
   | none => exact absurd hf this
   | some v => rfl
theorem ref11_Union_eq (r : Int) (v w : Int × Sl It) (hv : okS 2 v.2) (hw : okS 2 w.2) (lv : v.2.l.length ≤ 9223372036854775807) (lw : w.2.l.length ≤ 9223372036854775807) : ref11_Union r v w = some (if okR r = true then blendV (fU r) v w else ((0, nilS), 8)) := by
 have k1 := sure_len v
 have k2 := sure_len w
 have o1 := sureV_ok hv
 have o2 := sureV_ok hw
 have r1 := sureV_right v
 have r2 := sureV_right w
 unfold ref11_Union
 simp only [ref02_Is_eq, ref09_Sure_eq v hv lv, ref09_Sure_eq w hw lw, Option.bind_some]
 by_cases hr : okR r = true
 ·rw [if_pos hr]
  have hr' : (decide (1 ≤ r) && decide (r ≤ 5)) = true := hr
  rw [if_pos hr']
  unfold blendV
  by_cases hn : (sureV v).1 = (sureV w).1
  ·rw [if_neg (fun h => h hn), if_neg (fun h => h hn)]
   have hz := right_sz r1
   have hsp := mrg_SpecR (f := fU r) rfl (right_asc r1) (by rw [hn]; exact right_asc r2)
   obtain ⟨q, h1, h2⟩ := loop_up (b := ref11_Union_b1 r (sureV v).1 (sureV v).2 (sureV w).1 (sureV w).2) (sureV v).1.toNat (fun j a => a = ((j : Int), gathR 0 j fun p => joinF (fU r (getI p (sureV v).2.l) (getI p (sureV w).2.l))) ∧ ∀ p : Nat, p < j → fU r (getI p (sureV v).2.l) (getI p (sureV w).2.l) ≠ none) (fun q => q = (match mrg (fU r) (sureV v).2.l (sureV w).2.l with | none => .inr ((0, (⟨false, 0, []⟩ : Sl It)), 12) | some r => .inl r))
    (by
     rintro j _ hj ⟨rfl, hp⟩
     have hlen := gathR_len 0 j fun p => joinF (fU r (getI p (sureV v).2.l) (getI p (sureV w).2.l))
     have hlast := gathR_last 0 j fun p => joinF (fU r (getI p (sureV v).2.l) (getI p (sureV w).2.l))
     rw [Nat.zero_add] at hlast
     generalize hG : gathR 0 j (fun p => joinF (fU r (getI p (sureV v).2.l) (getI p (sureV w).2.l))) = G at hlen hlast ⊢
     have hap : ∀ z : It, app G [z] = some (G ++ [z]) := fun z => app_few (by omega) z
     have hnext : ∀ u, fU r (getI j (sureV v).2.l) (getI j (sureV w).2.l) = some u → ∀ p : Nat, p < j + 1 → fU r (getI p (sureV v).2.l) (getI p (sureV w).2.l) ≠ none := fun u hu p hpj => by
      by_cases e : p = j
      ·subst e; rw [hu]; simp
      ·exact hp p (by omega)
     simp only [ref11_Union_b1, ref11_has_eq _ _ _ o1 (show (sureV v).2.l.length ≤ _ by omega), ref11_has_eq _ _ _ o2 (show (sureV w).2.l.length ≤ _ by omega), Option.bind_some, w_succ hj (show (sureV v).1.toNat ≤ _ by omega)]
     rw [if_pos (by omega)]
     cases ha : getI (j : Int) (sureV v).2.l with
     | none =>
      cases hb : getI (j : Int) (sureV w).2.l with
      | none =>
       rw [ha, hb] at hnext hlast
       simp only [encO, Bool.false_eq_true, if_false]
       exact .inl ⟨_, rfl, by rw [hlast]; simp [fU, joinF], hnext _ rfl⟩
      | some y =>
       rw [ha, hb] at hnext hlast
       simp only [encO, Bool.false_eq_true, if_false, if_true, hap, Option.bind_some]
       exact .inl ⟨_, rfl, by rw [hlast]; rfl, hnext _ rfl⟩
     | some x =>
      cases hb : getI (j : Int) (sureV w).2.l with
      | none =>
       rw [ha, hb] at hnext hlast
       simp only [encO, Bool.false_eq_true, if_false, if_true, hap, Option.bind_some]
       exact .inl ⟨_, rfl, by rw [hlast]; rfl, hnext _ rfl⟩
      | some y =>
       have hlo := ringAdd_lo (r := r) (ofW_lo x) (ofW_lo y)
       have hfu : fU r (some x) (some y) = fitO (ringAdd r (ofW x) (ofW y)) := rfl
       simp only [encO, if_true, ref01_Of_eq, ref02_Add_eq, u64_fit hlo, Option.bind_some]
       unfold fitO at hfu
       cases hc : (narrowW (ringAdd r (ofW x) (ofW y))).2 with
       | false =>
        rw [hc] at hfu
        simp only [Bool.false_eq_true, if_false]
        refine .inr ⟨_, rfl, ?_⟩
        cases hq : mrg (fU r) (sureV v).2.l (sureV w).2.l with
        | none => rfl
        | some u =>
         have := (hsp.2 u hq).2 j
         rw [ha, hb, hfu] at this
         simp at this
       | true =>
        rw [hc] at hfu
        simp only [if_true, hap, Option.bind_some]
        have hfu' : fU r (some x) (some y) = some (some (narrowW (ringAdd r (ofW x) (ofW y))).1) := hfu
        rw [ha, hb] at hnext hlast
        exact .inl ⟨_, rfl, by rw [hlast, hfu']; rfl, hnext _ hfu'⟩)
    (by
     rintro _ ⟨rfl, hp⟩
     refine ⟨_, if_neg (by omega), ?_⟩
     have := SpecR.uniq hz.1 hsp (gath_SpecR (f := fU r) rfl hz.1 (right_asc r1) (by rw [hn]; exact right_asc r2) fun p hpn => hp p (by omega))
     rw [this]) 0 (Nat.zero_le _) (0, []) ⟨rfl, fun p hp => absurd hp (by omega)⟩
   rw [h1, h2]
   cases mrg (fU r) (sureV v).2.l (sureV w).2.l <;> rfl
  ·rw [if_pos hn, if_pos hn]; rfl
 ·rw [if_neg hr]
  have hr' : ¬ (decide (1 ≤ r) && decide (r ≤ 5)) = true := hr
  rw [if_neg hr']; rfl
end Ev
end Go.Proofs.YtnikcjnkcjondaaDoor
end
section
namespace Go.Proofs.YtnikcjnkcjondaaDoor
namespace Ev
open Go
set_option linter.unusedVariables false
set_option linter.unusedSimpArgs false
theorem div64n {j : Nat} (hj : j < 1000000) : divO .i64 (j : Int) 64 = some ((j / 64 : Nat) : Int) := by
 unfold divO
 rw [if_pos (by decide), Int.tdiv_eq_ediv_of_nonneg (by omega), wrap64 (by omega) (by omega)]; rfl
theorem mod64n {j : Nat} : modO (j : Int) 64 = some ((j % 64 : Nat) : Int) := by
 unfold modO
 rw [if_pos (by decide), Int.tmod_eq_emod_of_nonneg (by omega)]; rfl
theorem and_nat {a b : Nat} (ha : a < 18446744073709551616) (hb : b < 18446744073709551616) : andI .u64 (a : Int) (b : Int) = ((a &&& b : Nat) : Int) := by
 unfold andI
 have hb' : IntKind.u64.bits = 64 := rfl
 rw [hb', BitVec.toNat_and, BitVec.toNat_ofInt, BitVec.toNat_ofInt, wrap_u64]
 have e1 : ((a : Int) % ((2 ^ 64 : Nat) : Int)).toNat = a := by omega
 have e2 : ((b : Int) % ((2 ^ 64 : Nat) : Int)).toNat = b := by omega
 rw [e1, e2]
 have : a &&& b < 2 ^ 64 := Nat.and_lt_two_pow a (by omega)
 omega
def hasB (ws : List Int) (p : Nat) : Bool := match ws[p / 64]? with | some w => w.toNat.testBit (p % 64) | none => false
def u64s (ws : List Int) : Prop := ∀ w ∈ ws, u64r w
theorem and_pow (a k : Nat) : a &&& 2 ^ k ≠ 0 ↔ a.testBit k = true := by
 constructor
 ·intro h
  cases hc : a.testBit k with
  | true => rfl
  | false =>
   refine absurd (Nat.eq_of_testBit_eq fun i => ?_) h
   rw [Nat.testBit_and, Nat.testBit_two_pow, Nat.zero_testBit]
   by_cases e : k = i
   ·subst e; rw [hc]; rfl
   ·rw [decide_eq_false e, Bool.and_false]
 ·intro h e
  have : (a &&& 2 ^ k).testBit k = false := by rw [e]; exact Nat.zero_testBit _
  rw [Nat.testBit_and, Nat.testBit_two_pow, h] at this
  simp at this
theorem pow_lt {k : Nat} (hk : k < 64) : 2 ^ k < 18446744073709551616 := Nat.pow_lt_pow_right (by decide) hk
theorem flags_Has_eq (s : Sl Int) (p : Nat) (hok : okS 1 s) (hu : u64s s.l) (hp : p < 1000000) : flags_Has s (p : Int) = some (hasB s.l p) := by
 unfold flags_Has flags_within hasB
 simp only [div64n hp, Option.bind_some]
 rw [if_pos (by omega)]
 by_cases h : p / 64 < s.l.length
 ·rw [if_pos (by omega)]
  simp only [Option.bind_some, if_true, at_get hok h]
  have hw := hu _ (List.getElem_mem h)
  have hg : s.l[p / 64]? = some s.l[p / 64] := List.getElem?_eq_getElem h
  rw [hg]
  obtain ⟨w, hw2⟩ := Int.eq_ofNat_of_zero_le hw.1
  rw [hw2] at hw ⊢
  have hk : p % 64 < 64 := Nat.mod_lt _ (by decide)
  have hpow := pow_lt hk
  have hb : flags_bit (p : Int) = some ((2 ^ (p % 64) : Nat) : Int) := by
   unfold flags_bit
   simp only [mod64n, Option.bind_some]
   have e : IntKind.u64.wrap ((p % 64 : Nat) : Int) = ((p % 64 : Nat) : Int) := by rw [wrap_u64]; omega
   rw [e]
   unfold shl1 shlI
   rw [if_pos (by omega)]
   have hmin : min (((p % 64 : Nat) : Int)).toNat IntKind.u64.bits = p % 64 := by
    have : IntKind.u64.bits = 64 := rfl
    omega
   rw [hmin, Int.one_mul, wrap_u64]
   simp only [Option.bind_some]
   congr 1
   have : (2 : Int) ^ (p % 64) = ((2 ^ (p % 64) : Nat) : Int) := by simp
   rw [this]
   clear this
   generalize 2 ^ (p % 64) = z at hpow ⊢
   omega
  rw [hb]
  simp only [Option.bind_some]
  rw [and_nat (by have := hw.2; omega) hpow]
  simp only [Int.toNat_natCast]
  have ht := and_pow w (p % 64)
  cases hc : w.testBit (p % 64) with
  | false => rw [hc] at ht; rw [if_neg (fun h => by have := ht.1 (fun e => h (by rw [e]; rfl)); simp at this)]
  | true => rw [hc] at ht; rw [if_pos (by have := ht.2 rfl; omega)]
 ·rw [if_neg (by omega)]
  simp only [Option.bind_some, Bool.false_eq_true, if_false]
  rw [List.getElem?_eq_none (by omega)]
theorem u64s_of {s : Sl Int} (h : SlW 1 (fun x => inK .u64 x) s) : u64s s.l := fun x hx => by
 have := h.2.2.2 x hx
 simpa [inK, u64r, Lit.wf, IntKind.min, IntKind.max, IntKind.signed, IntKind.bits] using this
end Ev
end Go.Proofs.YtnikcjnkcjondaaDoor
end
section
namespace Go.Proofs.YtnikcjnkcjondaaDoor
namespace Ev
open Go
set_option linter.unusedVariables false
set_option linter.unusedSimpArgs false
theorem law09_Some_at (n : Int) (s : Sl It) (hn : 0 ≤ n ∧ n ≤ 255) (hok : okS 2 s) (hl : s.l.length ≤ 9223372036854775807) (hv : ∀ x ∈ s.l, i64r x.2) : ∃ v, law09_Some n s = some v ∧ GoodV v ∧ v.1 = n.tmod 60 := by
 unfold law09_Some
 have hw : IntKind.i64.wrap n = n := wrap64 (by omega) (by omega)
 obtain ⟨k, hk, k0, k1, k2⟩ : ∃ k, modO n 60 = some k ∧ 0 ≤ k ∧ k < 60 ∧ k = n.tmod 60 := by
  refine ⟨n.tmod 60, by unfold modO; rw [if_pos (by omega)], ?_, ?_, rfl⟩
  ·exact Int.tmod_nonneg _ hn.1
  ·exact Int.tmod_lt_of_pos _ (by omega)
 rw [hw, hk]
 simp only [Option.bind_some]
 obtain ⟨q, h1, l, rfl, h2, h3⟩ := loop_up (b := law09_Some_b1 s k) (if 0 < k then min s.l.length 60 else 0) (fun j a => ∃ l, a = (l, (j : Int)) ∧ l.length ≤ j ∧ ∀ x ∈ l, 0 ≤ x.1 ∧ x.1 < k ∧ i64r x.2) (fun q => ∃ l, q = .inl l ∧ l.length ≤ 60 ∧ ∀ x ∈ l, 0 ≤ x.1 ∧ x.1 < k ∧ i64r x.2)
  (by
   rintro j _ hj ⟨l, rfl, hlj, hlk⟩
   have hk0 : 0 < k := by
    by_cases c : 0 < k
    ·exact c
    ·rw [if_neg c] at hj; omega
   rw [if_pos hk0] at hj
   have hj1 : j < s.l.length := by omega
   have hj2 : j < 60 := by omega
   simp only [law09_Some_b1, at_get hok hj1, Option.bind_some, w_succ hj1 (by omega)]
   rw [if_pos (by omega), if_pos (by omega), if_pos (by omega)]
   by_cases c : s.l[j].1 ≥ 0
   ·rw [if_pos c]
    have hm : modO s.l[j].1 k = some (s.l[j].1.tmod k) := by unfold modO; rw [if_pos (by omega)]
    have ha : app l [(s.l[j].1.tmod k, s.l[j].2)] = some (l ++ [(s.l[j].1.tmod k, s.l[j].2)]) := app_ok (by simp; unfold bound; omega)
    simp only [hm, ha, Option.bind_some]
    refine .inl ⟨_, rfl, _, rfl, by simp; omega, fun x hx => ?_⟩
    rcases List.mem_append.1 hx with hx | hx
    ·exact hlk x hx
    ·simp only [List.mem_singleton] at hx
     subst hx
     exact ⟨Int.tmod_nonneg _ c, Int.tmod_lt_of_pos _ hk0, by have := hv s.l[j] (List.getElem_mem hj1); exact this⟩
   ·rw [if_neg c]
    exact .inl ⟨_, rfl, l, rfl, by omega, hlk⟩)
  (by
   rintro _ ⟨l, rfl, hlj, hlk⟩
   have hb : l.length ≤ 60 := by
    by_cases c : 0 < k
    ·rw [if_pos c] at hlj; omega
    ·rw [if_neg c] at hlj; omega
   refine ⟨.inl l, ?_, l, rfl, hb, hlk⟩
   simp only [law09_Some_b1]
   by_cases c : 0 < k
   ·rw [if_pos c]
    by_cases c1 : ((min s.l.length 60 : Nat) : Int) < (s.l.length : Int)
    ·rw [if_pos c1, if_neg (by omega)]
    ·rw [if_neg c1]
   ·rw [if_neg c]
    by_cases c1 : ((0 : Nat) : Int) < (s.l.length : Int)
    ·rw [if_pos c1, if_pos (by omega), if_neg (by omega)]
    ·rw [if_neg c1]) 0 (Nat.zero_le _) ([], 0) ⟨[], rfl, Nat.le_refl _, fun x hx => by simp at hx⟩
 rw [h1]
 simp only [Option.bind_some, Sum.elim_inl]
 obtain ⟨v, e, g1, g2, g3⟩ := ref09_Of_min k (mo 2 l) (ok_mo _) k0 (by omega) (by rw [mo_l]; omega) (fun x hx => h3 x (by rw [mo_l] at hx; exact hx))
 rw [g1]
 exact ⟨_, rfl, g2, by rw [g3, k2]⟩
theorem GoodV.len {v : Int × Sl It} (h : GoodV v) : v.2.l.length ≤ 4096 := right_len h.1
theorem blendV_good {f : Option Int → Option Int → Option (Option Int)} {v w : Int × Sl It} (hv : GoodV v) (hw : GoodV w) (hn : v.1 = w.1) : blendV f v w = (match mrg f v.2.l w.2.l with | none => ((0, nilS), 12) | some r => ((v.1, mo 2 r), 0)) := by
 unfold blendV
 rw [sure_id hv.1, sure_id hw.1, if_neg (fun h => h hn)]
 all_goals (cases mrg f v.2.l w.2.l <;> rfl)
theorem good_mo {n : Int} {r : List It} (h0 : 0 ≤ n) (h1 : n ≤ 4096) (ha : asc (-1) n r = true) (hr : ∀ x ∈ r, i64r x.2) : GoodV (n, mo 2 r) := by
 refine ⟨?_, ok_mo _, by simpa only [mo_l] using hr⟩
 unfold rightB sizeB
 simp only [mo_l, ha, decide_eq_true h0, decide_eq_true h1, Bool.and_self]
theorem vals_of {n : Int} {r : List It} {Q : Int → Prop} (ha : asc (-1) n r = true) (h : ∀ p y, getI p r = some y → Q y) : ∀ x ∈ r, Q x.2 := fun x hx => h x.1 x.2 (getI_mem ha x hx)
theorem same_list {v v' : Int × Sl It} (hok : okS 2 v.2) (hok' : okS 2 v'.2) (hn : v.1 = v'.1) (he : v.2.l = v'.2.l) (hl : v.2.l.length ≤ 8192) : ref09_Same v v' = some true := same_eq v v' hok hok' hn he (by omega)
end Ev
end Go.Proofs.YtnikcjnkcjondaaDoor
end
section
namespace Go.Proofs.YtnikcjnkcjondaaDoor
namespace Ev
open Go
set_option linter.unusedVariables false
set_option linter.unusedSimpArgs false
theorem good_asc {k : Int} {s : Sl It} (h : GoodV (k, s)) : asc (-1) k s.l = true := right_asc (v := (k, s)) h.1
theorem GoodV.lenS {k : Int} {s : Sl It} (h : GoodV (k, s)) : s.l.length ≤ 9223372036854775807 := by have := h.len; simp only at this; omega
end Ev
end Go.Proofs.YtnikcjnkcjondaaDoor
end
section
namespace Go.Proofs.YtnikcjnkcjondaaDoor
namespace Ev
open Go
set_option linter.unusedVariables false
set_option linter.unusedSimpArgs false
theorem at_mo {α : Type} {w : Nat} {l : List α} {k : Nat} {x : α} (h : l[k]? = some x) : atS w (mo w l) (k : Int) = some x := by
 have hk := (List.getElem?_eq_some_iff.1 h).1
 have := at_get (w := w) (s := mo w l) (ok_mo l) (j := k) (by rw [mo_l]; exact hk)
 rw [this]
 simp only [mo_l]
 rw [← h, List.getElem?_eq_getElem hk]
theorem hasB_word {ws : List Int} {p i k : Nat} {w : Int} (hp : p / 64 = i) (hk : p % 64 = k) (hw : ws[i]? = some w) : hasB ws p = w.toNat.testBit k := by unfold hasB; rw [hp, hk, hw]
theorem hasB_out {ws : List Int} {p : Nat} (h : ws.length ≤ p / 64) : hasB ws p = false := by unfold hasB; rw [List.getElem?_eq_none h]
theorem ref03_words_eq {n : Int} (h : 0 ≤ n ∧ n ≤ 4096) : ref03_words n = some ((n + 63) / 64) := by
 unfold ref03_words
 rw [if_neg (by omega)]
 by_cases h1 : n < 1
 ·rw [if_pos h1]
  obtain rfl : n = 0 := by omega
  rfl
 ·rw [if_neg h1, wrap64 (by omega) (by omega)]
  unfold divO
  rw [if_pos (by decide), Int.tdiv_eq_ediv_of_nonneg (by omega), wrap64 (by omega) (by omega)]; rfl
theorem or_nat {a b : Nat} (ha : a < 18446744073709551616) (hb : b < 18446744073709551616) : orI .u64 (a : Int) (b : Int) = ((a ||| b : Nat) : Int) := by
 unfold orI
 have hb' : IntKind.u64.bits = 64 := rfl
 rw [hb', BitVec.toNat_or, BitVec.toNat_ofInt, BitVec.toNat_ofInt, wrap_u64]
 have e1 : ((a : Int) % ((2 ^ 64 : Nat) : Int)).toNat = a := by omega
 have e2 : ((b : Int) % ((2 ^ 64 : Nat) : Int)).toNat = b := by omega
 rw [e1, e2]
 have : a ||| b < 2 ^ 64 := Nat.or_lt_two_pow (by omega) (by omega)
 omega
theorem shl_one {p : Nat} : shl1 .u64 1 (IntKind.u64.wrap ((p % 64 : Nat) : Int)) = some ((2 ^ (p % 64) : Nat) : Int) := by
 have hk : p % 64 < 64 := Nat.mod_lt _ (by decide)
 have hpow := pow_lt hk
 have e : IntKind.u64.wrap ((p % 64 : Nat) : Int) = ((p % 64 : Nat) : Int) := by rw [wrap_u64]; omega
 rw [e]
 unfold shl1 shlI
 rw [if_pos (by omega)]
 have hmin : min (((p % 64 : Nat) : Int)).toNat IntKind.u64.bits = p % 64 := by
  have : IntKind.u64.bits = 64 := rfl
  omega
 rw [hmin, Int.one_mul, wrap_u64]
 congr 1
 have : (2 : Int) ^ (p % 64) = ((2 ^ (p % 64) : Nat) : Int) := by simp
 rw [this]
 clear this
 generalize 2 ^ (p % 64) = z at hpow ⊢
 omega
theorem ref03_Put_eq (ws : List Int) (p : Nat) (hu : u64s ws) (hl : ws.length ≤ 1000) (hp : p / 64 < ws.length) (hp2 : p < 1000000) : ∃ q, ref03_Put ⟨true, 1, ws⟩ (p : Int) = some q ∧ q.length = ws.length ∧ u64s q ∧ ∀ i, hasB q i = (hasB ws i || decide (i = p)) := by
 have hap : app ([] : List Int) ws = some ([] ++ ws) := app_ok (by simp; unfold bound; omega)
 have hw := hu _ (List.getElem_mem hp)
 have hat := at_mo (w := 1) (l := ws) (List.getElem?_eq_getElem hp)
 obtain ⟨w, hw2⟩ := Int.eq_ofNat_of_zero_le hw.1
 rw [hw2] at hw hat
 have hwlt : w < 18446744073709551616 := by have := hw.2; omega
 have hk : p % 64 < 64 := Nat.mod_lt _ (by decide)
 have hpow := pow_lt hk
 have hor := or_nat hwlt hpow
 have horl : w ||| 2 ^ (p % 64) < 2 ^ 64 := Nat.or_lt_two_pow (by omega) (by omega)
 refine ⟨ws.set (p / 64) ((w ||| 2 ^ (p % 64) : Nat) : Int), ?_, by simp, fun x hx => ?_, fun i => ?_⟩
 ·unfold ref03_Put ref03_set
  simp only [hap, Option.bind_some, List.nil_append, div64n hp2, mod64n, shl_one, hat, hor, if_true]
  rw [if_neg (by omega), if_neg (by omega), Int.toNat_natCast]; rfl
 ·rcases List.mem_or_eq_of_mem_set hx with hx | rfl
  ·exact hu x hx
  ·unfold u64r; omega
 ·by_cases e : i / 64 = p / 64
  ·rw [hasB_word (ws := ws.set _ _) e rfl (by rw [List.getElem?_set, if_pos rfl, if_pos hp]), hasB_word e rfl (by rw [List.getElem?_eq_getElem hp, hw2])]
   simp only [Int.toNat_natCast]
   rw [Nat.testBit_or, Nat.testBit_two_pow]
   congr 1
   by_cases e2 : i = p
   ·subst e2; simp
   ·rw [decide_eq_false e2, decide_eq_false (by omega)]
  ·have hne : (ws.set (p / 64) ((w ||| 2 ^ (p % 64) : Nat) : Int))[i / 64]? = ws[i / 64]? := by rw [List.getElem?_set, if_neg (Ne.symm e)]
   have e2 : i ≠ p := fun h => e (by rw [h])
   rw [decide_eq_false e2, Bool.or_false]
   unfold hasB
   rw [hne]
theorem has_zero (k i : Nat) : hasB (List.replicate k 0) i = false := by
 unfold hasB
 rw [List.getElem?_replicate]
 split
 ·rename_i h
  split at h
  ·simp only [Option.some.injEq] at h; rw [← h]; simp
  ·simp at h
 ·rfl
theorem ref03_Of_eq {n : Nat} (hn : n ≤ 4096) (s : Sl Int) (hs : okS 1 s) (hl : s.l.length ≤ 9223372036854775807) : ∃ q, ref03_Of (n : Int) s = some q ∧ ((q.length : Nat) : Int) = ((n : Int) + 63) / 64 ∧ u64s q ∧ ∀ i, hasB q i = (decide (i < n) && decide ((i : Int) ∈ s.l)) := by
 have hwd := ref03_words_eq (n := (n : Int)) ⟨by omega, by omega⟩
 have hlo : lenOk (((n : Int) + 63) / 64) = some () := by unfold lenOk bound; rw [if_pos ⟨by omega, by omega⟩]
 unfold ref03_Of ref03_New
 simp only [hwd, hlo, Option.bind_some]
 obtain ⟨q, q1, w, rfl, w1, w2, w3⟩ := loop_up (b := ref03_Of_b1 (n : Int) s) s.l.length (fun j st => ∃ w : List Int, st = (w, (j : Int)) ∧ ((w.length : Nat) : Int) = ((n : Int) + 63) / 64 ∧ u64s w ∧ ∀ i, hasB w i = (decide (i < n) && decide ((i : Int) ∈ s.l.take j))) (fun q => ∃ w : List Int, q = .inl w ∧ ((w.length : Nat) : Int) = ((n : Int) + 63) / 64 ∧ u64s w ∧ ∀ i, hasB w i = (decide (i < n) && decide ((i : Int) ∈ s.l)))
  (by
   rintro j _ hj ⟨w, rfl, g1, g2, g3⟩
   have ej := at_get hs hj
   have htk : s.l.take (j + 1) = s.l.take j ++ [s.l[j]] := by rw [List.take_succ_eq_append_getElem hj]
   rw [htk]
   generalize s.l[j] = x at ej
   simp only [ref03_Of_b1, ej, Option.bind_some, w_succ hj hl]
   rw [if_pos (by omega)]
   have same : ¬ (0 ≤ x ∧ x < (n : Int)) → ∀ i, hasB w i = (decide (i < n) && decide ((i : Int) ∈ s.l.take j ++ [x])) := fun h i => by
    rw [g3 i]
    by_cases hi : i < n
    ·rw [decide_eq_true hi]
     simp only [Bool.true_and]
     congr 1
     simp only [List.mem_append, List.mem_cons, List.not_mem_nil, or_false, eq_iff_iff]
     exact ⟨.inl, fun h1 => h1.resolve_right fun e => h (by omega)⟩
    ·rw [decide_eq_false hi]; rfl
   by_cases c1 : x ≥ 0
   ·rw [if_pos c1]
    by_cases c2 : x < (n : Int)
    ·rw [if_pos c2, if_pos (by omega)]
     obtain ⟨p, rfl⟩ := Int.eq_ofNat_of_zero_le c1
     obtain ⟨v, v1, v2, v3, v4⟩ := ref03_Put_eq w p g2 (by omega) (by omega) (by omega)
     rw [v1]
     simp only [Option.bind_some]
     rw [neL_some (by intro h; rw [h] at v2; simp at v2; omega)]
     refine .inl ⟨_, rfl, v, rfl, by rw [v2]; exact g1, v3, fun i => ?_⟩
     rw [v4 i, g3 i]
     by_cases hi : i < n
     ·rw [decide_eq_true hi]
      simp only [Bool.true_and, List.mem_append, List.mem_cons, List.not_mem_nil, or_false, Bool.decide_or]
      congr 1
      by_cases e : i = p
      ·subst e; simp
      ·rw [decide_eq_false e, decide_eq_false (by omega)]
     ·rw [decide_eq_false hi, decide_eq_false (show ¬ i = p by omega)]; rfl
    ·rw [if_neg c2]
     exact .inl ⟨_, rfl, w, rfl, g1, g2, same (by omega)⟩
   ·rw [if_neg c1]
    exact .inl ⟨_, rfl, w, rfl, g1, g2, same (by omega)⟩)
  (by
   rintro _ ⟨w, rfl, g1, g2, g3⟩
   rw [List.take_length] at g3
   refine ⟨.inl w, ?_, w, rfl, g1, g2, g3⟩
   simp only [ref03_Of_b1]
   rw [if_neg (by omega)]) 0 (Nat.zero_le _) (List.replicate (((n : Int) + 63) / 64).toNat 0, 0) ⟨_, rfl, by simp; omega, fun x hx => by rw [List.eq_of_mem_replicate hx]; unfold u64r; omega, fun i => by rw [has_zero]; simp⟩
 exact ⟨w, by rw [q1]; rfl, w1, w2, w3⟩
end Ev
end Go.Proofs.YtnikcjnkcjondaaDoor
end
section
namespace Go.Proofs.YtnikcjnkcjondaaDoor
namespace Ev
open Go
set_option linter.unusedVariables false
set_option linter.unusedSimpArgs false
abbrev E3 := Int × Int × Int
def bel (a b : E3) : Bool := decide (a.1 < b.1) || (decide (a.1 = b.1) && decide (a.2.1 < b.2.1))
theorem bel_iff {a b : E3} : bel a b = true ↔ a.1 < b.1 ∨ a.1 = b.1 ∧ a.2.1 < b.2.1 := by unfold bel; simp
theorem ref05_below_eq (a b : E3) : ref05_below a b = some (bel a b) := by
 obtain ⟨a1, a2, a3⟩ := a
 obtain ⟨b1, b2, b3⟩ := b
 unfold ref05_below bel
 simp only
 by_cases h1 : a1 < b1
 ·rw [if_pos h1, decide_eq_true h1]; rfl
 ·rw [if_neg h1, decide_eq_false h1]
  by_cases h2 : a1 = b1
  ·rw [if_pos h2, decide_eq_true h2]
   by_cases h3 : a2 < b2
   ·rw [if_pos h3, decide_eq_true h3]; rfl
   ·rw [if_neg h3, decide_eq_false h3]; rfl
  ·rw [if_neg h2, decide_eq_false h2]; rfl
def insE {α : Type} (l : List α) (k : Nat) (y : α) : List α := l.take k ++ y :: l.drop k
theorem insE_len {α : Type} {l : List α} {k : Nat} (y : α) : (insE l k y).length = l.length + 1 := by unfold insE; simp; omega
theorem insE_at {α : Type} {l : List α} {k : Nat} (hk : k ≤ l.length) (y : α) : (insE l k y)[k]? = some y := by
 unfold insE
 rw [List.getElem?_append_right (by rw [List.length_take]; omega), List.length_take, Nat.min_eq_left hk, Nat.sub_self]; rfl
theorem insE_set {α : Type} {l : List α} {k : Nat} (hk : k ≤ l.length) (y x : α) : (insE l k y).set k x = insE l k x := by
 unfold insE
 rw [List.set_append_right _ _ (by rw [List.length_take]; omega), List.length_take, Nat.min_eq_left hk, Nat.sub_self]; rfl
theorem insE_last {α : Type} (l : List α) (y : α) : insE l l.length y = l ++ [y] := by unfold insE; simp
theorem insE_pred {α : Type} {l : List α} {k : Nat} (hk : k + 1 ≤ l.length) (y : α) : (insE l (k + 1) y)[k]? = some l[k] ∧ insE l (k + 1) l[k] = insE l k l[k] := by
 unfold insE
 constructor
 ·rw [List.getElem?_append_left (by simp; omega), List.getElem?_take, if_pos (by omega), List.getElem?_eq_getElem]
 ·rw [List.take_succ_eq_append_getElem (by omega), List.append_assoc, List.drop_eq_getElem_cons (i := k) (by omega)]; rfl
theorem insE_mem {α : Type} {l : List α} {k : Nat} {y x : α} (h : x ∈ insE l k y) : x = y ∨ x ∈ l := by
 unfold insE at h
 rcases List.mem_append.1 h with h | h
 ·exact .inr (List.mem_of_mem_take h)
 ·rcases List.mem_cons.1 h with h | h
  ·exact .inl h
  ·exact .inr (List.mem_of_mem_drop h)
abbrev RC := (List E3 × List (Int × Int) × Int) ⊕ ((List E3 × List (Int × Int)) ⊕ (Sl E3 × Int))
theorem shift_one {b : List E3 × List (Int × Int) × Int → Option ((List E3 × List (Int × Int) × Int) ⊕ ((List E3 × List (Int × Int)) ⊕ RC))} {a : Nat} (hb : b = ref05_Combine_b3 (a : Int) ∨ b = ref05_Combine_b4 (a : Int)) {l : List E3} {s : List (Int × Int)} (hl : s.length = l.length) (hn : l.length ≤ 100000) (ha : a ≤ l.length) (y : E3) (z : Int × Int) :
  ∃ y' z', loopO b (l ++ [y], s ++ [z], (l.length : Int)) = some (.inl (insE l a y', insE s a z')) := by
 have step : ∀ (k : Nat) y z, a < k + 1 → k + 1 ≤ l.length → ∃ y' z', b (insE l (k + 1) y, insE s (k + 1) z, ((k + 1 : Nat) : Int)) = some (.inl (insE l k y', insE s k z', (k : Int))) := fun k y z h1 hk => by
  have hks : k + 1 ≤ s.length := by omega
  have e1 := at_mo (w := 3) (insE_pred hk y).1
  have e2 := at_mo (w := 3) (insE_at hk y)
  have e3 := at_mo (w := 2) (insE_pred hks z).1
  have e4 := at_mo (w := 2) (insE_at hks z)
  have hw : IntKind.i64.wrap (((k + 1 : Nat) : Int) - 1) = (k : Int) := by rw [wrap64 (by omega) (by omega)]; omega
  have t1 : ((k + 1 : Nat) : Int).toNat = k + 1 := Int.toNat_natCast _
  refine ⟨l[k], s[k], ?_⟩
  rw [← (insE_pred hk y).2, ← (insE_pred hks z).2, ← insE_set hk y l[k], ← insE_set hks z s[k]]
  rcases hb with rfl | rfl
  ·simp only [ref05_Combine_b3, hw, e1, e2, e3, e4, Option.bind_some, t1]
   rw [if_pos (by omega)]
  ·simp only [ref05_Combine_b4, hw, e1, e2, e3, e4, Option.bind_some, t1]
   rw [if_pos (by omega)]
 have stop : ∀ y z, b (insE l a y, insE s a z, (a : Int)) = some (.inr (.inl (insE l a y, insE s a z))) := fun y z => by
  rcases hb with rfl | rfl
  ·simp only [ref05_Combine_b3]; rw [if_neg (by omega)]
  ·simp only [ref05_Combine_b4]; rw [if_neg (by omega)]
 obtain ⟨q, q1, y', z', q2⟩ := loop_up (b := b) (l.length - a) (fun j st => ∃ y z, st = (insE l (l.length - j) y, insE s (l.length - j) z, ((l.length - j : Nat) : Int))) (fun q => ∃ y z, q = .inl (insE l a y, insE s a z))
  (by
   rintro j _ hj ⟨y, z, rfl⟩
   obtain ⟨k, hk⟩ : ∃ k, l.length - j = k + 1 := ⟨l.length - j - 1, by omega⟩
   rw [hk]
   obtain ⟨y', z', e⟩ := step k y z (by omega) (by omega)
   exact .inl ⟨_, e, y', z', by rw [show l.length - (j + 1) = k by omega]⟩)
  (by
   rintro _ ⟨y, z, rfl⟩
   rw [show l.length - (l.length - a) = a by omega]
   exact ⟨_, stop y z, y, z, rfl⟩) 0 (Nat.zero_le _) (l ++ [y], s ++ [z], (l.length : Int)) ⟨y, z, by rw [Nat.sub_zero, insE_last, ← hl, insE_last, hl]⟩
 exact ⟨y', z', by rw [q1, q2]⟩
theorem find_at {s2 : Sl E3} {l : List E3} {i : Nat} (hs : okS 3 s2) (hi : i < s2.l.length) (hn : l.length ≤ 100000) : ∃ a : Nat, a ≤ l.length ∧ loopO (ref05_Combine_b2 s2 l (i : Int)) 0 = some (.inl (a : Int)) ∧ (∀ j (h : j < l.length), j < a → bel l[j] s2.l[i] = true) ∧ ∀ h : a < l.length, bel l[a] s2.l[i] = false := by
 have ei := at_get hs hi
 obtain ⟨q, q1, a, h1, rfl, h2, h3⟩ := loop_up (b := ref05_Combine_b2 s2 l (i : Int)) l.length (fun j a => a = (j : Int) ∧ ∀ k (h : k < l.length), k < j → bel l[k] s2.l[i] = true) (fun q => ∃ a : Nat, a ≤ l.length ∧ q = .inl (a : Int) ∧ (∀ j (h : j < l.length), j < a → bel l[j] s2.l[i] = true) ∧ ∀ h : a < l.length, bel l[a] s2.l[i] = false)
  (by
   rintro j _ hj ⟨rfl, ha⟩
   have ej := at_mo (w := 3) (List.getElem?_eq_getElem hj)
   simp only [ref05_Combine_b2, ej, ei, Option.bind_some, ref05_below_eq, w_succ hj (by omega)]
   rw [if_pos (by omega)]
   cases hb : bel l[j] s2.l[i] with
   | true =>
    refine .inl ⟨_, rfl, rfl, fun k hk hkj => ?_⟩
    by_cases e : k = j
    ·subst e; exact hb
    ·exact ha k hk (by omega)
   | false => exact .inr ⟨_, rfl, j, by omega, rfl, ha, fun _ => hb⟩)
  (by
   rintro _ ⟨rfl, ha⟩
   refine ⟨.inl (l.length : Int), ?_, l.length, Nat.le_refl _, rfl, ha, fun h => absurd h (by omega)⟩
   simp only [ref05_Combine_b2]
   rw [if_neg (by omega)]) 0 (Nat.zero_le _) 0 ⟨rfl, fun k h hk => absurd hk (by omega)⟩
 exact ⟨a, h1, q1, h2, h3⟩
abbrev rises (l : List E3) : Prop := l.Pairwise fun a b => bel a b = true
theorem bel_trans {a b c : E3} (h1 : bel a b = true) (h2 : bel b c = true) : bel a c = true := by
 rw [bel_iff] at *; omega
theorem rises_ins {l : List E3} {a : Nat} {x : E3} (hp : rises l) (h1 : ∀ j (h : j < l.length), j < a → bel l[j] x = true) (h2 : ∀ h : a < l.length, bel x l[a] = true) : rises (insE l a x) := by
 have hsplit : rises (l.take a ++ l.drop a) := by rw [List.take_append_drop]; exact hp
 unfold rises at hsplit
 rw [List.pairwise_append] at hsplit
 obtain ⟨s1, s2, s3⟩ := hsplit
 unfold insE rises
 rw [List.pairwise_append, List.pairwise_cons]
 have hx : ∀ y ∈ l.drop a, bel x y = true := fun y hy => by
  by_cases ha : a < l.length
  ·rw [List.drop_eq_getElem_cons ha] at hy s2
   rcases List.mem_cons.1 hy with rfl | hy
   ·exact h2 ha
   ·exact bel_trans (h2 ha) ((List.pairwise_cons.1 s2).1 y hy)
  ·rw [List.drop_eq_nil_of_le (by omega)] at hy; simp at hy
 refine ⟨s1, ⟨hx, s2⟩, fun y hy z hz => ?_⟩
 obtain ⟨j, hj, rfl⟩ := List.mem_iff_getElem.1 hy
 have hj' : j < a ∧ j < l.length := by simp at hj; omega
 rw [List.getElem_take]
 rcases List.mem_cons.1 hz with rfl | hz
 ·exact h1 j hj'.2 hj'.1
 ·exact bel_trans (h1 j hj'.2 hj'.1) (hx z hz)
def placed (s : List E3) (l : List E3) : Prop := ∀ x ∈ l, ∃ y ∈ s, y.1 = x.1 ∧ y.2.1 = x.2.1
theorem combine_one {r : Int} {s2 : Sl E3} (hs : okS 3 s2) (hn : s2.l.length ≤ 65536) : ∃ l s, loopO (ref05_Combine_b1 r s2) ([], [], 0) = some (.inl (l, s)) ∧ s.length = l.length ∧ l.length ≤ s2.l.length ∧ rises l ∧ placed s2.l l ∧ ∀ w ∈ s, u64r w.2 := by
 obtain ⟨q, q1, l, s, rfl, h1, h2, h3, h4, h5⟩ := loop_up (b := ref05_Combine_b1 r s2) s2.l.length (fun j st => ∃ l s, st = (l, s, (j : Int)) ∧ s.length = l.length ∧ l.length ≤ j ∧ rises l ∧ placed s2.l l ∧ ∀ w ∈ s, u64r w.2) (fun q => ∃ l s, q = .inl (l, s) ∧ s.length = l.length ∧ l.length ≤ s2.l.length ∧ rises l ∧ placed s2.l l ∧ ∀ w ∈ s, u64r w.2)
  (by
   rintro j _ hj ⟨l, s, rfl, g1, g2, g3, g4, g5⟩
   obtain ⟨a, a1, a2, a3, a4⟩ := find_at (l := l) hs hj (by omega)
   have ej := at_get hs hj
   have hx : ∃ y ∈ s2.l, y.1 = s2.l[j].1 ∧ y.2.1 = s2.l[j].2.1 := ⟨_, List.getElem_mem hj, rfl, rfl⟩
   generalize s2.l[j] = x at ej a3 a4 hx
   have ap1 : app l [((0 : Int), (0 : Int), (0 : Int))] = some (l ++ [(0, 0, 0)]) := app_ok (by simp; unfold bound; omega)
   have ap2 : app s [((0 : Int), (0 : Int))] = some (s ++ [(0, 0)]) := app_ok (by simp; unfold bound; omega)
   have hw1 : IntKind.i64.wrap ((((l ++ [((0 : Int), (0 : Int), (0 : Int))]).length : Nat) : Int) - 1) = (l.length : Int) := by rw [wrap64 (by simp only [List.length_append, List.length_cons, List.length_nil]; omega) (by simp only [List.length_append, List.length_cons, List.length_nil]; omega)]; simp only [List.length_append, List.length_cons, List.length_nil]; omega
   have ta : ((a : Nat) : Int).toNat = a := Int.toNat_natCast _
   obtain ⟨y3, z3, sh3⟩ := shift_one (b := ref05_Combine_b3 (a : Int)) (.inl rfl) g1 (by omega) a1 (0, 0, 0) (0, 0)
   obtain ⟨y4, z4, sh4⟩ := shift_one (b := ref05_Combine_b4 (a : Int)) (.inr rfl) g1 (by omega) a1 (0, 0, 0) (0, 0)
   have hal : a ≤ s.length := by omega
   have i3 := at_mo (w := 3) (insE_at a1 y3)
   have j3 := at_mo (w := 2) (insE_at hal z3)
   have i4 := at_mo (w := 3) (insE_at a1 y4)
   have j4 := at_mo (w := 2) (insE_at hal z4)
   have new : (∀ h : a < l.length, bel x l[a] = true) → rises (insE l a (x.1, x.2.1, 0)) ∧ placed s2.l (insE l a (x.1, x.2.1, 0)) ∧ ∀ w ∈ insE s a (ofW x.2.2), u64r w.2 := fun h => by
    refine ⟨rises_ins g3 a3 h, fun y hy => ?_, fun w hw => ?_⟩
    ·rcases insE_mem hy with rfl | hy
     ·exact hx
     ·exact g4 y hy
    ·rcases insE_mem hw with rfl | hw
     ·exact ofW_lo _
     ·exact g5 w hw
   simp only [ref05_Combine_b1, a2, ej, Option.bind_some, Sum.elim_inl, ref01_Of_eq, w_succ hj (by omega)]
   rw [if_pos (by omega)]
   by_cases c1 : a < l.length
   ·have ea := at_mo (w := 3) (List.getElem?_eq_getElem c1)
    have es := at_mo (w := 2) (List.getElem?_eq_getElem (show a < s.length by omega))
    rw [if_pos (by omega)]
    simp only [ea, Option.bind_some, ref05_below_eq]
    cases hb : bel x l[a] with
    | true =>
     simp only [if_true, ap1, ap2, Option.bind_some, hw1, sh3, Sum.elim_inl, i3, j3, ta]
     rw [insE_set a1, insE_set hal]
     exact .inl ⟨_, rfl, _, _, rfl, by rw [insE_len, insE_len]; omega, by rw [insE_len]; omega, new fun _ => hb⟩
    | false =>
     simp only [Bool.false_eq_true, if_false, es, Option.bind_some, ref02_Add_eq, ta]
     refine .inl ⟨_, rfl, _, _, rfl, by simp; omega, by omega, g3, g4, fun w hw => ?_⟩
     rcases List.mem_or_eq_of_mem_set hw with hw | rfl
     ·exact g5 w hw
     ·exact ringAdd_lo (g5 _ (List.getElem_mem _)) (ofW_lo _)
   ·rw [if_neg (by omega)]
    simp only [ap1, ap2, Option.bind_some, hw1, sh4, Sum.elim_inl, i4, j4, ta]
    rw [insE_set a1, insE_set hal]
    exact .inl ⟨_, rfl, _, _, rfl, by rw [insE_len, insE_len]; omega, by rw [insE_len]; omega, new fun h => absurd h c1⟩)
  (by
   rintro _ ⟨l, s, rfl, g⟩
   exact ⟨.inl (l, s), by simp only [ref05_Combine_b1]; rw [if_neg (by omega)], l, s, rfl, g⟩) 0 (Nat.zero_le _) ([], [], 0) ⟨[], [], rfl, rfl, Nat.le_refl _, List.Pairwise.nil, (fun x hx => by simp at hx), fun x hx => by simp at hx⟩
 exact ⟨l, s, q1, h1, h2, h3, h4, h5⟩
theorem combine_spec {r : Int} (hr : okR r = true) {s2 : Sl E3} (hs : okS 3 s2) (hn : s2.l.length ≤ 65536) : ref05_Combine r s2 = some (nilS, 12) ∨ ∃ l, ref05_Combine r s2 = some (mo 3 l, 0) ∧ l.length ≤ s2.l.length ∧ rises l ∧ placed s2.l l ∧ ∀ x ∈ l, i64r x.2.2 := by
 obtain ⟨l, s, q1, h1, h2, h3, h4, h5⟩ := combine_one (r := r) hs hn
 have hr' : (decide (1 ≤ r) && decide (r ≤ 5)) = true := hr
 unfold ref05_Combine
 simp only [ref02_Is_eq, Option.bind_some]
 rw [if_pos hr', q1]
 simp only [Option.bind_some, Sum.elim_inl]
 obtain ⟨q, p1, p2⟩ := loop_up (b := ref05_Combine_b5 s) l.length (fun j st => ∃ m : List E3, st = (m, (j : Int)) ∧ m.length = l.length ∧ (∀ i (h : i < m.length) (h' : i < l.length), m[i].1 = l[i].1 ∧ m[i].2.1 = l[i].2.1) ∧ ∀ i (h : i < m.length), i < j → i64r m[i].2.2) (fun q => q = .inr (nilS, 12) ∨ ∃ m : List E3, q = .inl m ∧ m.length = l.length ∧ (∀ i (h : i < m.length) (h' : i < l.length), m[i].1 = l[i].1 ∧ m[i].2.1 = l[i].2.1) ∧ ∀ i (h : i < m.length), i64r m[i].2.2)
  (by
   rintro j _ hj ⟨m, rfl, g1, g2, g3⟩
   have hjs : j < s.length := by omega
   have es := at_mo (w := 2) (List.getElem?_eq_getElem hjs)
   have em := at_mo (w := 3) (List.getElem?_eq_getElem (show j < m.length by omega))
   have tj : ((j : Nat) : Int).toNat = j := Int.toNat_natCast _
   have hnr := ref01_Narrow_eq (h5 _ (List.getElem_mem hjs))
   have hnv := narrow_r s[j]
   simp only [ref05_Combine_b5, es, em, Option.bind_some, tj, w_succ hj (by omega), hnr]
   rw [if_pos (by omega)]
   generalize narrowW s[j] = w at hnv
   by_cases c : w.2 = true
   ·rw [if_pos c]
    refine .inl ⟨_, rfl, _, rfl, by simp; omega, fun i h h' => ?_, fun i h hi => ?_⟩
    ·rw [List.getElem_set]
     by_cases e : j = i
     ·subst e; rw [if_pos rfl]; exact g2 j (by omega) h'
     ·rw [if_neg e]; exact g2 i (by simpa using h) h'
    ·rw [List.getElem_set]
     by_cases e : j = i
     ·rw [if_pos e]; exact hnv
     ·rw [if_neg e]; exact g3 i (by simpa using h) (by omega)
   ·rw [if_neg c]
    exact .inr ⟨_, rfl, .inl rfl⟩)
  (by
   rintro _ ⟨m, rfl, g1, g2, g3⟩
   exact ⟨.inl m, by simp only [ref05_Combine_b5]; rw [if_neg (by omega)], .inr ⟨m, rfl, g1, g2, fun i h => g3 i h (by omega)⟩⟩) 0 (Nat.zero_le _) (l, 0) ⟨l, rfl, rfl, fun _ _ _ => ⟨rfl, rfl⟩, fun i h hi => absurd hi (by omega)⟩
 rw [p1]
 rcases p2 with rfl | ⟨m, rfl, g1, g2, g3⟩
 ·exact .inl rfl
 ·refine .inr ⟨m, rfl, by omega, ?_, fun x hx => ?_, fun x hx => ?_⟩
  ·refine List.pairwise_iff_getElem.2 fun i j hi hj hij => ?_
   have := List.pairwise_iff_getElem.1 h3 i j (by omega) (by omega) hij
   have e1 := g2 i hi (by omega)
   have e2 := g2 j hj (by omega)
   rw [bel_iff] at this ⊢
   rw [e1.1, e1.2, e2.1, e2.2]
   exact this
  ·obtain ⟨i, hi, rfl⟩ := List.mem_iff_getElem.1 hx
   obtain ⟨y, y1, y2, y3⟩ := h4 _ (List.getElem_mem (show i < l.length by omega))
   have e1 := g2 i hi (by omega)
   exact ⟨y, y1, by rw [e1.1, y2], by rw [e1.2, y3]⟩
  ·obtain ⟨i, hi, rfl⟩ := List.mem_iff_getElem.1 hx
   exact g3 i hi
end Ev
end Go.Proofs.YtnikcjnkcjondaaDoor
end
section
namespace Go.Proofs.YtnikcjnkcjondaaDoor
namespace Ev
open Go
set_option linter.unusedVariables false
set_option linter.unusedSimpArgs false
theorem bit_of_ne {x : Nat} (h : x ≠ 0) : ∃ i, x.testBit i = true := by
 by_cases hh : ∃ i, x.testBit i = true
 ·exact hh
 ·refine absurd (Nat.eq_of_testBit_eq (y := 0) fun i => ?_) h
  rw [Nat.zero_testBit]
  cases hb : x.testBit i with
  | false => rfl
  | true => exact absurd ⟨i, hb⟩ hh
theorem shr_nat {w k : Nat} (hw : w < 18446744073709551616) (hk : k < 64) : shr1 .u64 (w : Int) (IntKind.u64.wrap ((k : Nat) : Int)) = some ((w / 2 ^ k : Nat) : Int) := by
 have e : IntKind.u64.wrap ((k : Nat) : Int) = ((k : Nat) : Int) := by rw [wrap_u64]; omega
 rw [e]
 unfold shr1 shrI
 rw [if_pos (by omega)]
 have hmin : min (((k : Nat) : Int)).toNat IntKind.u64.bits = k := by
  have : IntKind.u64.bits = 64 := rfl
  omega
 rw [hmin]
 have : (2 : Int) ^ k = ((2 ^ k : Nat) : Int) := by simp
 rw [this, Int.fdiv_eq_ediv_of_nonneg _ (Int.natCast_nonneg _)]; rfl
theorem bit_lt {w k : Nat} (hw : w < 18446744073709551616) (h : w.testBit k = true) : k < 64 := by
 by_cases hk : k < 64
 ·exact hk
 ·have : w < 2 ^ k := Nat.lt_of_lt_of_le (show w < 2 ^ 64 by omega) (Nat.pow_le_pow_right (by decide) (by omega))
  rw [Nat.testBit_lt_two_pow this] at h; simp at h
theorem TZ_eq {x : Nat} (h0 : x ≠ 0) (h : x < 18446744073709551616) : ∃ k : Nat, TZ (x : Int) = some (k : Int) ∧ k < 64 := by
 unfold TZ
 rw [if_pos (by omega)]
 exact ⟨_, rfl, by simpa using (Lib.lowest_bit 64 x h0 h).2⟩
theorem next_in {n6 j : Int} {w : Nat} (hw : w < 18446744073709551616) (h0 : 0 ≤ n6 ∧ n6 ≤ 100) (h1 : 0 ≤ j ∧ j ≤ 100) : (w = 0 → loopO (flags_Next_b2 n6 j w) () = some (.inr (.inl ()))) ∧ (w ≠ 0 → ∃ z, 0 ≤ z ∧ loopO (flags_Next_b2 n6 j w) () = some (.inl z)) := by
 constructor
 ·intro h
  exact loopO_done (by unfold flags_Next_b2; rw [if_neg (by omega)])
 ·intro h
  obtain ⟨k, hk, hlt⟩ := TZ_eq h hw
  refine ⟨_, ?_, loopO_done (by unfold flags_Next_b2; rw [if_pos (by omega), hk]; rfl)⟩
  rw [wrap64 (n := n6 + 1) (by omega) (by omega), wrap64 (n := (n6 + 1) * 64) (by omega) (by omega), wrap64 (n := j * 64) (by omega) (by omega), wrap64 (n := j * 64 + (k : Int)) (by omega) (by omega), wrap64 (by omega) (by omega)]
  omega
theorem flags_Next_neg (s : Sl Int) (n : Nat) (hok : okS 1 s) (hu : u64s s.l) (hl : s.l.length ≤ 64) (hn : n ≤ 4096) : ∃ z, flags_Next s (n : Int) = some z ∧ (z < 0 ↔ ∀ p, n ≤ p → hasB s.l p = false) := by
 unfold flags_Next flags_within
 have hm : maxI (n : Int) 0 = n := by unfold maxI; rw [if_neg (by omega)]
 rw [hm]
 simp only [div64n (show n < 1000000 by omega), Option.bind_some, mod64n]
 rw [if_pos (by omega)]
 by_cases h : n / 64 < s.l.length
 ·rw [if_pos (by omega)]
  simp only [Option.bind_some, if_true, at_get hok h]
  have hw := hu _ (List.getElem_mem h)
  have hg : s.l[n / 64]? = some s.l[n / 64] := List.getElem?_eq_getElem h
  obtain ⟨w, hw2⟩ := Int.eq_ofNat_of_zero_le hw.1
  rw [hw2] at hw hg ⊢
  have hwlt : w < 18446744073709551616 := by have := hw.2; omega
  rw [shr_nat hwlt (Nat.mod_lt _ (by decide))]
  simp only [Option.bind_some]
  have hle : w / 2 ^ (n % 64) ≤ w := Nat.div_le_self _ _
  have hdv : ∀ i, (w / 2 ^ (n % 64)).testBit i = w.testBit (i + n % 64) := fun i => by rw [Nat.testBit_div_two_pow]
  by_cases h0 : w / 2 ^ (n % 64) = 0
  ·rw [if_neg (by omega)]
   have hsame : ∀ p, p / 64 = n / 64 → n ≤ p → hasB s.l p = false := fun p hp hnp => by
    rw [hasB_word hp rfl hg]
    have := hdv (p % 64 - n % 64)
    rw [h0, Nat.zero_testBit, show p % 64 - n % 64 + n % 64 = p % 64 by omega] at this
    simpa using this.symm
   have hcut : cutS 1 s (IntKind.i64.wrap ((n / 64 : Nat) + 1)) ((s.l.length : Nat) : Int) = some ⟨s.nn, s.sz, s.l.drop (n / 64 + 1)⟩ := by
    rw [w_succ h (by omega)]
    unfold cutS
    rw [if_pos ⟨by omega, by omega, by omega, .inl (hok.resolve_left (by intro e; rw [e] at h; simp at h))⟩]
    simp only [Int.toNat_natCast]
    rw [List.take_of_length_le (by simp)]
   rw [hcut]
   simp only [Option.bind_some]
   have hdm : ∀ x ∈ s.l.drop (n / 64 + 1), u64r x := fun x hx => hu x (List.mem_of_mem_drop hx)
   have hdl : (s.l.drop (n / 64 + 1)).length + (n / 64 + 1) = s.l.length := by simp; omega
   have hdg : ∀ i, (s.l.drop (n / 64 + 1))[i]? = s.l[n / 64 + 1 + i]? := fun i => List.getElem?_drop
   generalize s.l.drop (n / 64 + 1) = d at hdm hdl hdg
   have hget : ∀ i (hi : i < d.length) (h2 : n / 64 + 1 + i < s.l.length), d[i] = s.l[n / 64 + 1 + i] := fun i hi h2 => by
    have := hdg i
    rw [List.getElem?_eq_getElem hi, List.getElem?_eq_getElem h2] at this
    exact Option.some.inj this
   obtain ⟨q, q1, q2⟩ := loop_up (b := flags_Next_b1 ((n / 64 : Nat) : Int) ⟨s.nn, s.sz, d⟩) d.length (fun j a => a = (j : Int) ∧ ∀ i (h : i < d.length), i < j → d[i] = 0) (fun q => (∃ z, q = .inl z ∧ 0 ≤ z ∧ ∃ i, ∃ h : i < d.length, d[i] ≠ 0) ∨ (q = .inr (.inl ()) ∧ ∀ i (h : i < d.length), d[i] = 0))
    (by
     rintro j _ hj ⟨rfl, ha⟩
     have hok' : okS 1 (⟨s.nn, s.sz, d⟩ : Sl Int) := .inr (hok.resolve_left (by intro e; rw [e] at h; simp at h))
     have hjl : j < 64 := by omega
     have hv := hdm _ (List.getElem_mem hj)
     simp only [flags_Next_b1, at_get hok' hj, Option.bind_some]
     rw [if_pos (show (j : Int) < ((d.length : Nat) : Int) by omega)]
     obtain ⟨v, hv2⟩ := Int.eq_ofNat_of_zero_le hv.1
     have hvlt : v < 18446744073709551616 := by have := hv.2; omega
     have hin := next_in (n6 := ((n / 64 : Nat) : Int)) (j := (j : Int)) hvlt ⟨by omega, by omega⟩ ⟨by omega, by omega⟩
     rw [hv2]
     by_cases v0 : v = 0
     ·rw [hin.1 v0]
      refine .inl ⟨_, rfl, by rw [w_succ hj (by omega)], fun i hi hij => ?_⟩
      by_cases e : i = j
      ·subst e; omega
      ·exact ha i hi (by omega)
     ·obtain ⟨z, z0, hz⟩ := hin.2 v0
      rw [hz]
      exact .inr ⟨_, rfl, .inl ⟨z, rfl, z0, j, hj, by omega⟩⟩)
    (by
     rintro _ ⟨rfl, ha⟩
     refine ⟨_, if_neg (show ¬ ((d.length : Nat) : Int) < ((d.length : Nat) : Int) by omega), .inr ⟨rfl, fun i hi => ha i hi hi⟩⟩) 0 (Nat.zero_le _) 0 ⟨rfl, fun i hi h0 => absurd h0 (by omega)⟩
   rw [q1]
   rcases q2 with ⟨z, rfl, z0, i, hi, hne⟩ | ⟨rfl, hz⟩
   ·refine ⟨z, rfl, ?_⟩
    constructor
    ·intro hh; omega
    ·intro hh
     exfalso
     have hi' : n / 64 + 1 + i < s.l.length := by omega
     rw [hget i hi hi'] at hne
     have hv := hu _ (List.getElem_mem hi')
     obtain ⟨v, hv2⟩ := Int.eq_ofNat_of_zero_le hv.1
     rw [hv2] at hne hv
     obtain ⟨k, hk⟩ := bit_of_ne (x := v) (by omega)
     have hk2 := bit_lt (by have := hv.2; omega) hk
     have := hh (64 * (n / 64 + 1 + i) + k) (by omega)
     rw [hasB_word (i := n / 64 + 1 + i) (k := k) (w := (v : Int)) (by omega) (by omega) (by rw [List.getElem?_eq_getElem hi', hv2])] at this
     simp only [Int.toNat_natCast] at this
     rw [hk] at this; simp at this
   ·refine ⟨-1, rfl, ?_⟩
    refine ⟨fun _ p hp => ?_, fun _ => by decide⟩
    by_cases e : p / 64 = n / 64
    ·exact hsame p e hp
    ·by_cases hlen : p / 64 < s.l.length
     ·have hd : p / 64 - (n / 64 + 1) < d.length := by omega
      have := hz _ hd
      rw [hget _ hd (by omega)] at this
      rw [hasB_word (w := 0) rfl rfl (by rw [List.getElem?_eq_getElem hlen, ← this]; congr 2; omega)]
      simp
     ·exact hasB_out (by omega)
  ·rw [if_pos (by omega)]
   obtain ⟨k, hk, hk2⟩ := TZ_eq h0 (by omega)
   rw [hk]
   refine ⟨_, rfl, ?_⟩
   rw [wrap64 (by omega) (by omega)]
   constructor
   ·intro hh; omega
   ·intro hh
    exfalso
    obtain ⟨i, hi⟩ := bit_of_ne h0
    rw [hdv] at hi
    have := bit_lt hwlt hi
    have h2 := hh (64 * (n / 64) + (i + n % 64)) (by omega)
    rw [hasB_word (i := n / 64) (k := i + n % 64) (by omega) (by omega) hg] at h2
    simp only [Int.toNat_natCast] at h2
    rw [hi] at h2; simp at h2
 ·rw [if_neg (by omega)]
  simp only [Option.bind_some, Bool.false_eq_true, if_false]
  refine ⟨-1, rfl, ?_⟩
  exact ⟨fun _ p hp => hasB_out (by omega), fun _ => by decide⟩
theorem flags_words_eq {n : Int} (h : 0 ≤ n ∧ n ≤ 4096) : flags_words n = some ((n + 63) / 64) := by
 unfold flags_words
 have e1 : maxI n 0 = n := by unfold maxI; rw [if_neg (by omega)]
 have e2 : minI n 4096 = n := by unfold minI; rw [if_neg (by omega)]
 rw [e1, e2, wrap64 (by omega) (by omega)]
 unfold divO
 rw [if_pos (by decide), Int.tdiv_eq_ediv_of_nonneg (by omega), wrap64 (by omega) (by omega)]; rfl
def placesL (ws : List Int) : List Int := ((List.range (64 * ws.length)).filter (hasB ws)).map fun p : Nat => (p : Int)
def sizeF (n : Int) : Bool := decide (0 ≤ n) && decide (n ≤ 4096)
def rightF (ws : List Int) (n : Int) : Bool := sizeF n && (decide ((ws.length : Int) = (n + 63) / 64) && (placesL ws).all fun p => decide (p < n))
theorem places_mem {ws : List Int} {p : Int} : p ∈ placesL ws ↔ 0 ≤ p ∧ hasB ws p.toNat = true := by
 unfold placesL
 simp only [List.mem_map, List.mem_filter, List.mem_range]
 constructor
 ·rintro ⟨q, ⟨h1, h2⟩, rfl⟩; exact ⟨by omega, by simpa using h2⟩
 ·rintro ⟨h1, h2⟩
  refine ⟨p.toNat, ⟨?_, h2⟩, by omega⟩
  by_cases hh : p.toNat < 64 * ws.length
  ·exact hh
  ·rw [hasB_out (by omega)] at h2; simp at h2
theorem flags_Right_eq (s : Sl Int) (n : Int) (hok : okS 1 s) (hu : u64s s.l) (hl : s.l.length ≤ 9223372036854775807) : flags_Right s n = some (rightF s.l n) := by
 unfold flags_Right rightF sizeF
 by_cases h1 : 0 ≤ n
 ·rw [if_pos (show n ≥ 0 from h1), decide_eq_true h1]
  by_cases h2 : n ≤ 4096
  ·rw [if_pos h2, decide_eq_true h2, flags_words_eq ⟨h1, h2⟩]
   simp only [Option.bind_some, Bool.and_self, Bool.true_and]
   by_cases h3 : ((s.l.length : Nat) : Int) = (n + 63) / 64
   ·rw [if_pos h3, decide_eq_true h3]
    obtain ⟨k, rfl⟩ := Int.eq_ofNat_of_zero_le h1
    obtain ⟨z, z1, z2⟩ := flags_Next_neg s k hok hu (by omega) (by omega)
    rw [z1]
    simp only [Option.bind_some, Bool.true_and]
    have key : (placesL s.l).all (fun p => decide (p < (k : Int))) = true ↔ z < 0 := by
     rw [z2, List.all_eq_true]
     constructor
     ·intro h p hp
      cases hb : hasB s.l p with
      | false => rfl
      | true => have := h (p : Int) (places_mem.2 ⟨by omega, by simpa using hb⟩); simp at this; omega
     ·intro h p hp
      obtain ⟨p0, p1⟩ := places_mem.1 hp
      rw [decide_eq_true_eq]
      by_cases hh : p < (k : Int)
      ·exact hh
      ·rw [h p.toNat (by omega)] at p1; simp at p1
    by_cases hz : z < 0
    ·rw [if_pos hz, key.2 hz]
    ·rw [if_neg hz, Bool.eq_false_iff.2 fun e => hz (key.1 e)]
   ·rw [if_neg h3, decide_eq_false h3]; simp
  ·rw [if_neg h2, decide_eq_false h2]; simp
 ·rw [if_neg (show ¬ n ≥ 0 from h1), decide_eq_false h1]; simp
end Ev
end Go.Proofs.YtnikcjnkcjondaaDoor
end
section
namespace Go.Proofs.YtnikcjnkcjondaaDoor
namespace Ev
open Go
set_option linter.unusedVariables false
set_option linter.unusedSimpArgs false
def rightD (d : Int × Sl Int × Sl Int) : Bool := rightF d.2.1.l d.1 && (decide ((d.2.2.l.length : Int) = d.1) && (List.range d.2.2.l.length).all fun i => decide (d.2.2.l.getD i 0 = 0) || hasB d.2.1.l i)
theorem getD_lt {l : List Int} {i : Nat} (h : i < l.length) : l.getD i 0 = l[i] := by rw [List.getD_eq_getElem?_getD, List.getElem?_eq_getElem h]; rfl
theorem all_range {n : Nat} {f : Nat → Bool} : (List.range n).all f = true ↔ ∀ i, i < n → f i = true := by
 rw [List.all_eq_true]
 exact ⟨fun h i hi => h i (by simpa using hi), fun h i hi => h i (by simpa using hi)⟩
theorem all_false {n : Nat} {f : Nat → Bool} {i : Nat} (hi : i < n) (h : f i = false) : (List.range n).all f = false := by
 rw [Bool.eq_false_iff]; intro e; have := all_range.1 e i hi; rw [h] at this; simp at this
structure OkD (d : Int × Sl Int × Sl Int) : Prop where
 has : okS 1 d.2.1
 bits : u64s d.2.1.l
 vals : okS 1 d.2.2
 v64 : ∀ x ∈ d.2.2.l, i64r x
 hl : d.2.1.l.length ≤ 9223372036854775807
 vl : d.2.2.l.length ≤ 9223372036854775807
theorem devec_Right_eq {d : Int × Sl Int × Sl Int} (h : OkD d) : devec_Right d = some (rightD d) := by
 obtain ⟨n, s, t⟩ := d
 obtain ⟨h1, h2, h3, h4, h5, h6⟩ := h
 simp only at h1 h2 h3 h4 h5 h6
 unfold devec_Right rightD
 simp only [flags_Right_eq s n h1 h2 h5, Option.bind_some]
 cases hr : rightF s.l n with
 | false => simp
 | true =>
  simp only [if_true, Bool.true_and]
  by_cases hn : ((t.l.length : Nat) : Int) = n
  ·rw [if_neg (fun h => h hn), decide_eq_true hn]
   simp only [Bool.true_and]
   have hb : n ≤ 4096 := by unfold rightF sizeF at hr; simp only [Bool.and_eq_true, decide_eq_true_eq] at hr; exact hr.1.2
   obtain ⟨q, q1, q2⟩ := loop_up (b := devec_Right_b1 s t) t.l.length (fun j a => a = (j : Int) ∧ ∀ i, i < j → (decide (t.l.getD i 0 = 0) || hasB s.l i) = true) (fun q => ((List.range t.l.length).all (fun i => decide (t.l.getD i 0 = 0) || hasB s.l i) = true ∧ q = .inl ()) ∨ ((List.range t.l.length).all (fun i => decide (t.l.getD i 0 = 0) || hasB s.l i) = false ∧ q = .inr false))
    (by
     rintro j _ hj ⟨rfl, ha⟩
     have hh := flags_Has_eq s j h1 h2 (by omega)
     have hd := getD_lt hj
     simp only [devec_Right_b1, at_get h3 hj, Option.bind_some, hh, w_succ hj (by omega)]
     rw [if_pos (by omega)]
     have next : (decide (t.l.getD j 0 = 0) || hasB s.l j) = true → ∀ i, i < j + 1 → (decide (t.l.getD i 0 = 0) || hasB s.l i) = true := fun h i hi => by
      by_cases e : i = j
      ·rw [e]; exact h
      ·exact ha i (by omega)
     by_cases h0 : t.l[j] = 0
     ·rw [if_neg (fun h => h h0)]
      exact .inl ⟨_, rfl, rfl, next (by rw [hd, decide_eq_true h0]; rfl)⟩
     ·rw [if_pos h0]
      cases hb : hasB s.l j with
      | true => exact .inl ⟨_, rfl, rfl, next (by rw [hb]; simp)⟩
      | false => exact .inr ⟨_, rfl, .inr ⟨all_false hj (by rw [hd, hb, decide_eq_false h0]; rfl), rfl⟩⟩)
    (by
     rintro _ ⟨rfl, ha⟩
     exact ⟨_, if_neg (by omega), .inl ⟨all_range.2 ha, rfl⟩⟩) 0 (Nat.zero_le _) 0 ⟨rfl, fun i hi => absurd hi (by omega)⟩
   rw [q1]
   rcases q2 with ⟨e, rfl⟩ | ⟨e, rfl⟩ <;> rw [e] <;> rfl
  ·rw [if_pos hn, decide_eq_false hn]; simp
theorem rightD_spec {d : Int × Sl Int × Sl Int} (h : rightD d = true) : 0 ≤ d.1 ∧ d.1 ≤ 4096 ∧ (d.2.1.l.length : Int) = (d.1 + 63) / 64 ∧ (∀ p ∈ placesL d.2.1.l, 0 ≤ p ∧ p < d.1) ∧ (d.2.2.l.length : Int) = d.1 := by
 unfold rightD rightF sizeF at h
 simp only [Bool.and_eq_true, decide_eq_true_eq, List.all_eq_true] at h
 obtain ⟨⟨⟨a, b⟩, c, e⟩, f, g⟩ := h
 exact ⟨a, b, c, fun p hp => ⟨(places_mem.1 hp).1, e p hp⟩, f⟩
theorem asc_map {n : Int} (f : Int → Int) : ∀ {l : List Int} {a : Int}, l.Pairwise (· < ·) → (∀ p ∈ l, a < p ∧ p < n) → asc a n (l.map fun p => (p, f p)) = true
 | [], a, _, _ => rfl
 | x :: l, a, h1, h2 => by
  rw [List.pairwise_cons] at h1
  have hx := h2 x List.mem_cons_self
  simp only [List.map_cons, asc, Bool.and_eq_true, decide_eq_true_eq]
  exact ⟨hx, asc_map f h1.2 fun p hp => ⟨h1.1 p hp, (h2 p (List.mem_cons_of_mem _ hp)).2⟩⟩
def denB (d : Int × Sl Int × Sl Int) (k : Int) : Option Int := if 0 ≤ k ∧ hasB d.2.1.l k.toNat = true then some (d.2.2.l.getD k.toNat 0) else none
end Ev
end Go.Proofs.YtnikcjnkcjondaaDoor
end
