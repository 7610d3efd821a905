/- The evaluator is right at a region that draws its order: each order comes to what the text's comes to. No program is named here. -/
import Derived.OrdersIn
import Derived.Test.YtjomjfjbpcafhaaDoorEv12
namespace Go.Proofs.YtjomjfjbpcafhaaDoor
namespace Ev
open Go Go.RowKit
set_option linter.unusedVariables false
set_option linter.unusedSimpArgs false

/-! which operations stand ahead -/
theorem before_in (acc : Array Nat) : ∀ (l : List Edge) (s : Nat) (j : Nat), (l.foldl (fun s e => if Region.binds .any e then s ||| 2 ^ e.on ||| acc.getD e.on 0 else s) s).testBit j = true →
    s.testBit j = true ∨ ∃ e ∈ l, Region.binds .any e = true ∧ (e.on = j ∨ (acc.getD e.on 0).testBit j = true)
  | [], s, j, h => .inl h
  | e :: l, s, j, h => by
    simp only [List.foldl_cons] at h
    rcases before_in acc l _ j h with h1 | ⟨e', h1, h2⟩
    · split at h1
      · rename_i hb
        simp only [Nat.testBit_or, Bool.or_eq_true, Nat.testBit_two_pow, decide_eq_true_eq] at h1
        rcases h1 with (h1 | h1) | h1
        · exact .inl h1
        · exact .inr ⟨e, List.mem_cons_self, hb, .inl h1⟩
        · exact .inr ⟨e, List.mem_cons_self, hb, .inr h1⟩
      · exact .inl h1
    · exact .inr ⟨e', List.mem_cons_of_mem _ h1, h2⟩
theorem before_list : ∀ (l : List Oper) (acc : Array Nat), acc.size ≤ (l.foldl (fun acc o => acc.push (o.after.foldl (fun s e => if Region.binds .any e then s ||| 2 ^ e.on ||| acc.getD e.on 0 else s) 0)) acc).size ∧
    (∀ i, i < acc.size → (l.foldl (fun acc o => acc.push (o.after.foldl (fun s e => if Region.binds .any e then s ||| 2 ^ e.on ||| acc.getD e.on 0 else s) 0)) acc).getD i 0 = acc.getD i 0) ∧
    ∀ (i : Nat) o j, l[i]? = some o → ((l.foldl (fun acc o => acc.push (o.after.foldl (fun s e => if Region.binds .any e then s ||| 2 ^ e.on ||| acc.getD e.on 0 else s) 0)) acc).getD (acc.size + i) 0).testBit j = true →
      ∃ e ∈ o.after.toList, Region.binds .any e = true ∧ (e.on = j ∨ ((l.foldl (fun acc o => acc.push (o.after.foldl (fun s e => if Region.binds .any e then s ||| 2 ^ e.on ||| acc.getD e.on 0 else s) 0)) acc).getD e.on 0).testBit j = true)
  | [], acc => ⟨Nat.le_refl _, fun _ _ => rfl, fun i o j h => by simp at h⟩
  | o :: l, acc => by
    obtain ⟨h1, h2, h3⟩ := before_list l (acc.push (o.after.foldl (fun s e => if Region.binds .any e then s ||| 2 ^ e.on ||| acc.getD e.on 0 else s) 0))
    simp only [List.foldl_cons]
    simp only [Array.size_push] at h1 h2 h3
    have keep : ∀ i, i < acc.size → (List.foldl (fun acc o => acc.push (o.after.foldl (fun s e => if Region.binds .any e then s ||| 2 ^ e.on ||| acc.getD e.on 0 else s) 0)) (acc.push (o.after.foldl (fun s e => if Region.binds .any e then s ||| 2 ^ e.on ||| acc.getD e.on 0 else s) 0)) l).getD i 0 = acc.getD i 0 := fun i hi => by
      rw [h2 i (by omega)]
      simp [Array.getD_eq_getD_getElem?, Array.getElem?_push, show ¬ i = acc.size by omega]
    refine ⟨by omega, keep, fun i o' j hi hb => ?_⟩
    cases i with
    | zero =>
      simp only [List.getElem?_cons_zero, Option.some.injEq] at hi
      subst hi
      rw [Nat.add_zero, h2 acc.size (by omega)] at hb
      have e1 : (acc.push (o.after.foldl (fun s e => if Region.binds .any e then s ||| 2 ^ e.on ||| acc.getD e.on 0 else s) 0)).getD acc.size 0 = o.after.foldl (fun s e => if Region.binds .any e then s ||| 2 ^ e.on ||| acc.getD e.on 0 else s) 0 := by
        simp [Array.getD_eq_getD_getElem?]
      rw [e1, ← Array.foldl_toList] at hb
      rcases before_in acc o.after.toList 0 j hb with h | ⟨e, g1, g2, g3⟩
      · simp at h
      · refine ⟨e, g1, g2, g3.imp id fun g => ?_⟩
        by_cases hlt : e.on < acc.size
        · rw [keep e.on hlt]; exact g
        · rw [Array.getD_eq_getD_getElem?, Array.getElem?_eq_none (by omega)] at g; simp at g
    | succ i =>
      exact h3 i o' j (by simpa using hi) (by rw [show acc.size + 1 + i = acc.size + (i + 1) by omega]; exact hb)
theorem before_spec (ops : Array Oper) {i : Nat} {o : Oper} (ho : ops[i]? = some o) {j : Nat} (h : ((Region.before ops).getD i 0).testBit j = true) :
    ∃ e ∈ o.after.toList, Region.binds .any e = true ∧ (e.on = j ∨ ((Region.before ops).getD e.on 0).testBit j = true) := by
  have hb : Region.before ops = ops.toList.foldl (fun acc o => acc.push (o.after.foldl (fun s e => if Region.binds .any e then s ||| 2 ^ e.on ||| acc.getD e.on 0 else s) 0)) #[] := by
    unfold Region.before
    rw [← Array.foldl_toList]
  rw [hb] at h ⊢
  exact (before_list ops.toList #[]).2.2 i o j (by simpa using ho) (by simpa using h)

section
variable {E : Env} {cp : CallP} {ops : Array Oper} {b : Nat} {U M : Nat → List Nat} {base : Nat} {F0 : Nat → Prop}

/-- Which operations are still to come. -/
structure Inv (ops : Array Oper) (A : Nat → Nat) (listed : Array Bool) (l : List (Nat × Oper)) : Prop where
  mem : ∀ i, i < ops.size → (listed.getD i true = false ↔ ∃ o, (i, o) ∈ l)
  size : listed.size = ops.size
  op : ∀ x ∈ l, ops[x.1]? = some x.2
  sorted : l.Pairwise fun x y => x.1 < y.1
  closed : ∀ i, i < ops.size → listed.getD i true = true → ∀ j, j < ops.size → (A i).testBit j = true → listed.getD j true = true

structure Static (ops : Array Oper) (b : Nat) (A : Nat → Nat) (U M : Nat → List Nat) : Prop where
  slot : ∀ (i j : Nat), i < ops.size → j < ops.size → i ≠ j → (A i).testBit j = false → b + j ∉ U i
  edges : ∀ (i : Nat) o, ops[i]? = some o → ∀ e ∈ o.after.toList, Region.binds .any e = true → e.on < i
  spec : ∀ (i : Nat) o, ops[i]? = some o → ∀ j, (A i).testBit j = true → ∃ e ∈ o.after.toList, Region.binds .any e = true ∧ (e.on = j ∨ (A e.on).testBit j = true)
  back : ∀ (i j : Nat), j < ops.size → i < j → (A i).testBit j = false
  swap : ∀ (i j : Nat) oi oj, ops[i]? = some oi → ops[j]? = some oj → unordered A i j = true → Swap ops U M i j oi oj

theorem draw_any (hE : TiOk E.P E.ti) (hcp : CpOk E.P cp) (hF : ∀ b, F0 b → b < base) {A : Nat → Nat} (S : Static ops b A U M) {Q : Exit → Act → World → Prop} :
    ∀ (fuel : Nat) (l : List (Nat × Oper)) (listed : Array Bool) (s s' : St) (a : Act) (w : World) (ρ : Nat → Nat), l.length = fuel → Inv ops A listed l → MRun E cp ops b U M l s s' → (∀ x ∈ l, ∀ B, s.h[b + x.1]? = some B → B = .no) →
      Rel base F0 ρ s a w → (∀ a' w' ρ', Rel base F0 ρ' s' a' w' → Ext w ρ s.h w' ρ' s'.h → a'.defers = a.defers → Q .normal a' w') → wpAny E.P .any ops Q fuel listed a w := by
  intro fuel
  induction fuel with
  | zero =>
    intro l listed s s' a w ρ hl I hM hno R hQ
    have : l = [] := List.length_eq_zero_iff.1 hl
    subst this
    cases hM
    refine ⟨?_, hQ a w ρ R (Ext.refl _ _ _) rfl⟩
    unfold Region.ready
    refine List.filter_eq_nil_iff.2 fun i hi hh => ?_
    have hlt : i < ops.size := by simpa using hi
    have := (I.mem i hlt).1 (by simp only [Bool.and_eq_true, Bool.not_eq_true'] at hh; exact hh.1)
    obtain ⟨o, ho⟩ := this
    simp at ho
  | succ fuel ih =>
    intro l listed s s' a w ρ hl I hM hno R hQ
    refine ⟨fun hr => ?_, fun i hi => ?_⟩
    · -- the first that is left is ready
      exfalso
      match l, hl with
      | (i, o) :: l', _ =>
        have ho := I.op (i, o) List.mem_cons_self
        simp only at ho
        have hlt : i < ops.size := (Array.getElem?_eq_some_iff.1 ho).1
        have hmem : i ∈ Region.ready .any ops listed := by
          unfold Region.ready
          rw [List.mem_filter]
          refine ⟨by simpa using hlt, ?_⟩
          rw [(I.mem i hlt).2 ⟨o, List.mem_cons_self⟩, ho]
          simp only [Bool.not_false, Bool.true_and, Option.map_some, Option.getD_some]
          rw [← Array.all_toList, List.all_eq_true]
          intro e he
          cases hb : Region.binds .any e with
          | false => rfl
          | true =>
            have hlt2 := S.edges i o ho e he hb
            have : listed.getD e.on true = true := by
              cases hh : listed.getD e.on true with
              | true => rfl
              | false =>
                obtain ⟨o2, ho2⟩ := (I.mem e.on (by omega)).1 hh
                have hs := I.sorted
                rw [List.pairwise_cons] at hs
                rcases List.mem_cons.1 ho2 with h | h
                · simp only [Prod.mk.injEq] at h; omega
                · have := hs.1 _ h; simp only at this; omega
            have e2 : listed.getD e.on false = true := by
              have hsz : e.on < listed.size := by rw [I.size]; omega
              simpa [Array.getD_eq_getD_getElem?, Array.getElem?_eq_getElem hsz] using this
            simp [e2]
        rw [hr] at hmem
        simp at hmem
    · unfold Region.ready at hi
      rw [List.mem_filter] at hi
      obtain ⟨hi1, hi2⟩ := hi
      have hlt : i < ops.size := by simpa using hi1
      simp only [Bool.and_eq_true, Bool.not_eq_true'] at hi2
      obtain ⟨hnl, hpre⟩ := hi2
      obtain ⟨o, hol⟩ := (I.mem i hlt).1 hnl
      have ho := I.op (i, o) hol
      simp only at ho
      rw [ho] at hpre
      simp only [Option.map_some, Option.getD_some] at hpre
      rw [← Array.all_toList, List.all_eq_true] at hpre
      have hdir : ∀ e ∈ o.after.toList, Region.binds .any e = true → listed.getD e.on true = true := fun e he hb => by
        have := hpre e he
        rw [hb] at this
        simp only [Bool.not_true, Bool.false_or] at this
        have hsz : e.on < listed.size := by rw [I.size]; have := S.edges i o ho e he hb; omega
        simpa [Array.getD_eq_getD_getElem?, Array.getElem?_eq_getElem hsz] using this
      have hanc : ∀ j, j < ops.size → (A i).testBit j = true → listed.getD j true = true := fun j hj hb => by
        obtain ⟨e, g1, g2, g3⟩ := S.spec i o ho j hb
        rcases g3 with g3 | g3
        · rw [← g3]; exact hdir e g1 g2
        · exact I.closed e.on (by have := S.edges i o ho e g1 g2; omega) (hdir e g1 g2) j hj g3
      obtain ⟨l1, l2, rfl⟩ := List.append_of_mem hol
      have hsort := I.sorted
      rw [List.pairwise_append] at hsort
      have hne : ∀ x ∈ l1 ++ l2, x.1 ≠ i := fun x hx => by
        rcases List.mem_append.1 hx with h | h
        · have := hsort.2.2 x h (i, o) List.mem_cons_self; simp only at this; omega
        · have := (List.pairwise_cons.1 hsort.2.1).1 x h; simp only at this; omega
      have hsw : ∀ x ∈ l1, Swap ops U M i x.1 o x.2 := fun x hx => by
        have hxo := I.op x (List.mem_append_left _ hx)
        have hxlt : x.1 < ops.size := (Array.getElem?_eq_some_iff.1 hxo).1
        have hlti := hsort.2.2 x hx (i, o) List.mem_cons_self
        simp only at hlti
        refine S.swap i x.1 o x.2 ho hxo ?_
        have h1 : (A i).testBit x.1 = false := by
          cases hh : (A i).testBit x.1 with
          | false => rfl
          | true =>
            have := hanc x.1 hxlt hh
            have h2 := (I.mem x.1 hxlt).2 ⟨x.2, List.mem_append_left _ hx⟩
            rw [this] at h2; simp at h2
        have h2 := S.back x.1 i hlt hlti
        unfold unordered
        simp [h1, h2]
        omega
      obtain ⟨e, s1, g1, g2, g3, g4, g5⟩ := move_front l1 s s' hsw hM
      have hstep := step_mono (mask_le s.h (M i)) g1
      have hids : ∀ x ∈ ids e, x < s.h.length := fun x hx => g3 x (by rw [← g2]; exact hx)
      have hlen : s1.h = apply s.h e.upd := (put_some g4).1
      have hG : RelG w base (Fb F0 ρ s.h) ρ s.h (only (looks ops o) s.t) a := fun k d hk => by
        unfold only at hk
        split at hk
        · exact R.tmps.2.2 k d hk
        · simp at hk
      have hst := step_ok (Q := Q) hE hcp R.heap R.base hF (nid := b + i) (hno (i, o) (List.mem_append_right _ List.mem_cons_self)) hG hstep (K := wpAny E.P .any ops Q fuel (listed.setIfInBounds i true)) (fun a' w' haft => by
        obtain ⟨ρ', R', X', D'⟩ := haft.rel R g4
        refine ih (l1 ++ l2) (listed.setIfInBounds i true) s1 s' a' w' ρ' (by simp at hl ⊢; omega) ?_ g5 (fun x hx B hB => ?_) R' fun a2 w2 ρ2 R2 X2 D2 => hQ a2 w2 ρ2 R2 (X'.trans X2) (D2.trans D')
        · have hsub : ∀ x, x ∈ l1 ++ l2 → x ∈ l1 ++ (i, o) :: l2 := fun x hx => by
            rcases List.mem_append.1 hx with h | h
            · exact List.mem_append_left _ h
            · exact List.mem_append_right _ (List.mem_cons_of_mem _ h)
          refine ⟨fun k hk => ?_, by simp [I.size], fun x hx => I.op x (hsub x hx), ?_, fun k hk hl k2 hk2 hb => ?_⟩
          · by_cases hki : k = i
            · subst hki
              have hsz : k < listed.size := by rw [I.size]; exact hk
              constructor
              · intro h
                simp [Array.getD_eq_getD_getElem?, Array.getElem?_setIfInBounds, hsz] at h
              · rintro ⟨o2, ho2⟩
                exact absurd rfl (hne _ ho2)
            · have e1 : (listed.setIfInBounds i true).getD k true = listed.getD k true := by
                simp [Array.getD_eq_getD_getElem?, Array.getElem?_setIfInBounds, show ¬ i = k by omega]
              rw [e1, I.mem k hk]
              constructor
              · rintro ⟨o2, ho2⟩
                refine ⟨o2, ?_⟩
                rcases List.mem_append.1 ho2 with h | h
                · exact List.mem_append_left _ h
                · rcases List.mem_cons.1 h with h | h
                  · simp only [Prod.mk.injEq] at h; exact absurd h.1 hki
                  · exact List.mem_append_right _ h
              · rintro ⟨o2, ho2⟩
                refine ⟨o2, ?_⟩
                rcases List.mem_append.1 ho2 with h | h
                · exact List.mem_append_left _ h
                · exact List.mem_append_right _ (List.mem_cons_of_mem _ h)
          · rw [List.pairwise_append]
            exact ⟨hsort.1, (List.pairwise_cons.1 hsort.2.1).2, fun x hx y hy => hsort.2.2 x hx y (List.mem_cons_of_mem _ hy)⟩
          · have up : ∀ q, listed.getD q true = true → (listed.setIfInBounds i true).getD q true = true := fun q hq => by
              simp only [Array.getD_eq_getD_getElem?, Array.getElem?_setIfInBounds] at hq ⊢
              split
              · split <;> simp
              · exact hq
            by_cases hki : k = i
            · subst hki; exact up _ (hanc k2 hk2 hb)
            · have e1 : (listed.setIfInBounds i true).getD k true = listed.getD k true := by
                simp [Array.getD_eq_getD_getElem?, Array.getElem?_setIfInBounds, show ¬ i = k by omega]
              rw [e1] at hl
              exact up _ (I.closed k hk hl k2 hk2 hb)
        · have hxl : x ∈ l1 ++ (i, o) :: l2 := by
            rcases List.mem_append.1 hx with h | h
            · exact List.mem_append_left _ h
            · exact List.mem_append_right _ (List.mem_cons_of_mem _ h)
          have hxlt : x.1 < ops.size := (Array.getElem?_eq_some_iff.1 (I.op x hxl)).1
          have hord : (A i).testBit x.1 = false := by
            cases hh : (A i).testBit x.1 with
            | false => rfl
            | true =>
              have h1 := hanc x.1 hxlt hh
              have h2 := (I.mem x.1 hxlt).2 ⟨x.2, hxl⟩
              rw [h1] at h2; simp at h2
          have hin : b + x.1 ∉ ids e := by rw [g2]; exact S.slot i x.1 hlt hxlt (Ne.symm (hne x hx)) hord
          rw [hlen, (apply_get _ _ hids).2.1 _ hin] at hB
          exact hno x hxl B hB)
      unfold wpOp
      rw [ho]
      exact hst
/-- Which operations ahead of a place are still to come. -/
structure InvT (ops : Array Oper) (m : Nat) (A : Nat → Nat) (listed : Array Bool) (l : List (Nat × Oper)) : Prop where
  mem : ∀ i, i < m → (listed.getD i true = false ↔ ∃ o, (i, o) ∈ l)
  tail : ∀ i, m ≤ i → i < ops.size → listed.getD i true = false
  size : listed.size = ops.size
  op : ∀ x ∈ l, ops[x.1]? = some x.2
  lt : ∀ x ∈ l, x.1 < m
  sorted : l.Pairwise fun x y => x.1 < y.1
  closed : ∀ i, i < ops.size → listed.getD i true = true → ∀ j, j < ops.size → (A i).testBit j = true → listed.getD j true = true

theorem tail_any {F : Fence} {n : Nat} {P : Program} {Q : Exit → Act → World → Prop} {A : Nat → Nat} (S : Static ops b A U M) : ∀ (k i : Nat) (listed : Array Bool) (a : Act) (w : World), i + k = ops.size → (∀ j, j < ops.size → listed.getD j true = decide (j < i)) → listed.size = ops.size →
    (∀ i', i ≤ i' → i' < ops.size → ∀ j, j < i' → (A i').testBit j = true) → wpOpsIn F n P ops Q (List.range' i k) a w → wpAnyIn F n P .any ops Q k listed a w
  | 0, i, listed, a, w, hk, hl, hs, hc, h => by
    refine ⟨?_, h⟩
    unfold Region.ready
    refine List.filter_eq_nil_iff.2 fun j hj hh => ?_
    have hlt : j < ops.size := by simpa using hj
    simp only [Bool.and_eq_true, Bool.not_eq_true'] at hh
    have := hl j hlt
    rw [hh.1, decide_eq_true (show j < i by omega)] at this
    simp at this
  | k + 1, i, listed, a, w, hk, hl, hs, hc, h => by
    have hi : i < ops.size := by omega
    have ho : ops[i]? = some ops[i] := Array.getElem?_eq_getElem hi
    have on : ∀ q, q < ops.size → listed.getD q false = decide (q < i) := fun q hq => by
      rw [← hl q hq]
      simp [Array.getD_eq_getD_getElem?, Array.getElem?_eq_getElem (show q < listed.size by omega)]
    refine ⟨fun hr => ?_, fun j hj => ?_⟩
    · exfalso
      have : i ∈ Region.ready .any ops listed := by
        refine mem_ready.2 ⟨by rw [hl i hi]; simp, _, ho, fun e he hb => ?_⟩
        have := S.edges i _ ho e (by simpa using he) hb
        rw [on e.on (by omega), decide_eq_true this]
      rw [hr] at this
      simp at this
    · obtain ⟨h1, o, h2, h3⟩ := mem_ready.1 hj
      have hjlt : j < ops.size := (Array.getElem?_eq_some_iff.1 h2).1
      rw [hl j hjlt] at h1
      have hji : j = i := by
        by_cases hh : j = i
        · exact hh
        · exfalso
          have hgt : i < j := by simp at h1; omega
          obtain ⟨e, g1, g2, g3⟩ := S.spec j o h2 i (hc j (by omega) hjlt i hgt)
          have g4 := h3 e (by simpa using g1) g2
          have g5 := S.edges j o h2 e g1 g2
          rw [on e.on (by omega)] at g4
          have g6 : e.on < i := by simpa using g4
          rcases g3 with g3 | g3
          · omega
          · rw [S.back e.on i hi g6] at g3; simp at g3
      subst hji
      rw [List.range'_succ, wpOpsIn_cons] at h
      refine wpOpIn_mono (fun a' w' h' => tail_any S k (j + 1) _ a' w' (by omega) (fun q hq => ?_) (by simp [hs]) (fun i' h1 => hc i' (by omega)) h') h
      by_cases hq2 : q = j
      · subst hq2
        simp [Array.getD_eq_getD_getElem?, Array.getElem?_setIfInBounds, show q < listed.size by omega]
      · have := hl q hq
        simp only [Array.getD_eq_getD_getElem?, Array.getElem?_setIfInBounds, show ¬ j = q by omega, if_false] at this ⊢
        rw [this]
        by_cases hlt : q < j
        · rw [decide_eq_true hlt, decide_eq_true (by omega)]
        · rw [decide_eq_false hlt, decide_eq_false (by omega)]

theorem draw_anyT (hE : TiOk E.P E.ti) (hcp : CpOk E.P cp) (hF : ∀ b, F0 b → b < base) {A : Nat → Nat} (S : Static ops b A U M) {m k n : Nat} {r : Option Nat} (hm : m + k = ops.size) (hcut : ∀ i, m ≤ i → i < ops.size → ∀ j, j < i → (A i).testBit j = true) (hd : ∀ (i : Nat) o, ops[i]? = some o → noDefer o = true) {Q : Exit → Act → World → Prop} (hno' : ¬ LetsOut Q) :
    ∀ (fuel : Nat) (l : List (Nat × Oper)) (listed : Array Bool) (s s' : St) (a : Act) (w : World) (ρ : Nat → Nat), l.length = fuel → InvT ops m A listed l → MRun E cp ops b U M l s s' → (∀ x ∈ l, ∀ B, s.h[b + x.1]? = some B → B = .no) →
      Rel base F0 ρ s a w → (∀ a' w' ρ', Rel base F0 ρ' s' a' w' → Ext w ρ s.h w' ρ' s'.h → a'.defers = a.defers → wpOpsIn (FR r) n E.P ops Q (List.range' m k) a' w') → wpAnyIn (FR r) n E.P .any ops Q (fuel + k) listed a w := by
  intro fuel
  induction fuel with
  | zero =>
    intro l listed s s' a w ρ hl I hM hno R hQ
    have : l = [] := List.length_eq_zero_iff.1 hl
    subst this
    cases hM
    rw [Nat.zero_add]
    refine tail_any S k m listed a w hm (fun j hj => ?_) I.size hcut (hQ a w ρ R (Ext.refl _ _ _) rfl)
    by_cases hjm : j < m
    · rw [decide_eq_true hjm]
      cases hh : listed.getD j true with
      | true => rfl
      | false => obtain ⟨o, ho⟩ := (I.mem j hjm).1 hh; simp at ho
    · rw [decide_eq_false hjm]; exact I.tail j (by omega) hj
  | succ fuel ih =>
    intro l listed s s' a w ρ hl I hM hno R hQ
    rw [show fuel + 1 + k = (fuel + k) + 1 by omega]
    refine ⟨fun hr => ?_, fun i hi => ?_⟩
    · -- the first that is left is ready
      exfalso
      match l, hl with
      | (i, o) :: l', _ =>
        have ho := I.op (i, o) List.mem_cons_self
        simp only at ho
        have hlt : i < ops.size := (Array.getElem?_eq_some_iff.1 ho).1
        have hmem : i ∈ Region.ready .any ops listed := by
          unfold Region.ready
          rw [List.mem_filter]
          refine ⟨by simpa using hlt, ?_⟩
          have him : i < m := I.lt (i, o) List.mem_cons_self
          rw [(I.mem i him).2 ⟨o, List.mem_cons_self⟩, ho]
          simp only [Bool.not_false, Bool.true_and, Option.map_some, Option.getD_some]
          rw [← Array.all_toList, List.all_eq_true]
          intro e he
          cases hb : Region.binds .any e with
          | false => rfl
          | true =>
            have hlt2 := S.edges i o ho e he hb
            have : listed.getD e.on true = true := by
              cases hh : listed.getD e.on true with
              | true => rfl
              | false =>
                have him : i < m := I.lt (i, o) List.mem_cons_self
                obtain ⟨o2, ho2⟩ := (I.mem e.on (by omega)).1 hh
                have hs := I.sorted
                rw [List.pairwise_cons] at hs
                rcases List.mem_cons.1 ho2 with h | h
                · simp only [Prod.mk.injEq] at h; omega
                · have := hs.1 _ h; simp only at this; omega
            have e2 : listed.getD e.on false = true := by
              have hsz : e.on < listed.size := by rw [I.size]; omega
              simpa [Array.getD_eq_getD_getElem?, Array.getElem?_eq_getElem hsz] using this
            simp [e2]
        rw [hr] at hmem
        simp at hmem
    · unfold Region.ready at hi
      rw [List.mem_filter] at hi
      obtain ⟨hi1, hi2⟩ := hi
      have hlt : i < ops.size := by simpa using hi1
      simp only [Bool.and_eq_true, Bool.not_eq_true'] at hi2
      obtain ⟨hnl, hpre⟩ := hi2
      obtain ⟨o, ho⟩ : ∃ o, ops[i]? = some o := ⟨ops[i], Array.getElem?_eq_getElem hlt⟩
      rw [ho] at hpre
      simp only [Option.map_some, Option.getD_some] at hpre
      rw [← Array.all_toList, List.all_eq_true] at hpre
      have hdir : ∀ e ∈ o.after.toList, Region.binds .any e = true → listed.getD e.on true = true := fun e he hb => by
        have := hpre e he
        rw [hb] at this
        simp only [Bool.not_true, Bool.false_or] at this
        have hsz : e.on < listed.size := by rw [I.size]; have := S.edges i o ho e he hb; omega
        simpa [Array.getD_eq_getD_getElem?, Array.getElem?_eq_getElem hsz] using this
      have hanc : ∀ j, j < ops.size → (A i).testBit j = true → listed.getD j true = true := fun j hj hb => by
        obtain ⟨e, g1, g2, g3⟩ := S.spec i o ho j hb
        rcases g3 with g3 | g3
        · rw [← g3]; exact hdir e g1 g2
        · exact I.closed e.on (by have := S.edges i o ho e g1 g2; omega) (hdir e g1 g2) j hj g3
      have him : i < m := by
        match l, hl with
        | (i0, o0) :: l', _ =>
          by_cases hh : i < m
          · exact hh
          · have h0 := I.lt (i0, o0) List.mem_cons_self
            simp only at h0
            have h1 := hanc i0 (by omega) (hcut i (by omega) hlt i0 (by omega))
            have h2 := (I.mem i0 h0).2 ⟨o0, List.mem_cons_self⟩
            rw [h1] at h2; simp at h2
      have hol : (i, o) ∈ l := by
        obtain ⟨o', ho'⟩ := (I.mem i him).1 hnl
        have := I.op (i, o') ho'
        simp only at this
        rw [ho] at this
        obtain rfl := Option.some.inj this
        exact ho'
      obtain ⟨l1, l2, rfl⟩ := List.append_of_mem hol
      have hsort := I.sorted
      rw [List.pairwise_append] at hsort
      have hne : ∀ x ∈ l1 ++ l2, x.1 ≠ i := fun x hx => by
        rcases List.mem_append.1 hx with h | h
        · have := hsort.2.2 x h (i, o) List.mem_cons_self; simp only at this; omega
        · have := (List.pairwise_cons.1 hsort.2.1).1 x h; simp only at this; omega
      have hsw : ∀ x ∈ l1, Swap ops U M i x.1 o x.2 := fun x hx => by
        have hxo := I.op x (List.mem_append_left _ hx)
        have hxlt : x.1 < ops.size := (Array.getElem?_eq_some_iff.1 hxo).1
        have hlti := hsort.2.2 x hx (i, o) List.mem_cons_self
        simp only at hlti
        refine S.swap i x.1 o x.2 ho hxo ?_
        have h1 : (A i).testBit x.1 = false := by
          cases hh : (A i).testBit x.1 with
          | false => rfl
          | true =>
            have := hanc x.1 hxlt hh
            have h2 := (I.mem x.1 (I.lt x (List.mem_append_left _ hx))).2 ⟨x.2, List.mem_append_left _ hx⟩
            rw [this] at h2; simp at h2
        have h2 := S.back x.1 i hlt hlti
        unfold unordered
        simp [h1, h2]
        omega
      obtain ⟨e, s1, g1, g2, g3, g4, g5⟩ := move_front l1 s s' hsw hM
      have hstep := step_mono (mask_le s.h (M i)) g1
      have hids : ∀ x ∈ ids e, x < s.h.length := fun x hx => g3 x (by rw [← g2]; exact hx)
      have hlen : s1.h = apply s.h e.upd := (put_some g4).1
      have hG : RelG w base (Fb F0 ρ s.h) ρ s.h (only (looks ops o) s.t) a := fun k d hk => by
        unfold only at hk
        split at hk
        · exact R.tmps.2.2 k d hk
        · simp at hk
      have hst := step_ok (Q := Q) hE hcp R.heap R.base hF (nid := b + i) (hno (i, o) (List.mem_append_right _ List.mem_cons_self)) hG hstep (K := wpAnyIn (FR r) n E.P .any ops Q (fuel + k) (listed.setIfInBounds i true)) (fun a' w' haft => by
        obtain ⟨ρ', R', X', D'⟩ := haft.rel R g4
        refine ih (l1 ++ l2) (listed.setIfInBounds i true) s1 s' a' w' ρ' (by simp at hl ⊢; omega) ?_ g5 (fun x hx B hB => ?_) R' fun a2 w2 ρ2 R2 X2 D2 => hQ a2 w2 ρ2 R2 (X'.trans X2) (D2.trans D')
        · have hsub : ∀ x, x ∈ l1 ++ l2 → x ∈ l1 ++ (i, o) :: l2 := fun x hx => by
            rcases List.mem_append.1 hx with h | h
            · exact List.mem_append_left _ h
            · exact List.mem_append_right _ (List.mem_cons_of_mem _ h)
          refine ⟨fun k hk => ?_, fun k hk1 hk2 => ?_, by simp [I.size], fun x hx => I.op x (hsub x hx), fun x hx => I.lt x (hsub x hx), ?_, fun k hk hl k2 hk2 hb => ?_⟩
          · by_cases hki : k = i
            · subst hki
              have hsz : k < listed.size := by rw [I.size]; omega
              constructor
              · intro h
                simp [Array.getD_eq_getD_getElem?, Array.getElem?_setIfInBounds, hsz] at h
              · rintro ⟨o2, ho2⟩
                exact absurd rfl (hne _ ho2)
            · have e1 : (listed.setIfInBounds i true).getD k true = listed.getD k true := by
                simp [Array.getD_eq_getD_getElem?, Array.getElem?_setIfInBounds, show ¬ i = k by omega]
              rw [e1, I.mem k hk]
              constructor
              · rintro ⟨o2, ho2⟩
                refine ⟨o2, ?_⟩
                rcases List.mem_append.1 ho2 with h | h
                · exact List.mem_append_left _ h
                · rcases List.mem_cons.1 h with h | h
                  · simp only [Prod.mk.injEq] at h; exact absurd h.1 hki
                  · exact List.mem_append_right _ h
              · rintro ⟨o2, ho2⟩
                refine ⟨o2, ?_⟩
                rcases List.mem_append.1 ho2 with h | h
                · exact List.mem_append_left _ h
                · exact List.mem_append_right _ (List.mem_cons_of_mem _ h)
          · have e1 : (listed.setIfInBounds i true).getD k true = listed.getD k true := by
              simp [Array.getD_eq_getD_getElem?, Array.getElem?_setIfInBounds, show ¬ i = k by omega]
            rw [e1]; exact I.tail k hk1 hk2
          · rw [List.pairwise_append]
            exact ⟨hsort.1, (List.pairwise_cons.1 hsort.2.1).2, fun x hx y hy => hsort.2.2 x hx y (List.mem_cons_of_mem _ hy)⟩
          · have up : ∀ q, listed.getD q true = true → (listed.setIfInBounds i true).getD q true = true := fun q hq => by
              simp only [Array.getD_eq_getD_getElem?, Array.getElem?_setIfInBounds] at hq ⊢
              split
              · split <;> simp
              · exact hq
            by_cases hki : k = i
            · subst hki; exact up _ (hanc k2 hk2 hb)
            · have e1 : (listed.setIfInBounds i true).getD k true = listed.getD k true := by
                simp [Array.getD_eq_getD_getElem?, Array.getElem?_setIfInBounds, show ¬ i = k by omega]
              rw [e1] at hl
              exact up _ (I.closed k hk hl k2 hk2 hb)
        · have hxl : x ∈ l1 ++ (i, o) :: l2 := by
            rcases List.mem_append.1 hx with h | h
            · exact List.mem_append_left _ h
            · exact List.mem_append_right _ (List.mem_cons_of_mem _ h)
          have hxlt : x.1 < ops.size := (Array.getElem?_eq_some_iff.1 (I.op x hxl)).1
          have hord : (A i).testBit x.1 = false := by
            cases hh : (A i).testBit x.1 with
            | false => rfl
            | true =>
              have h1 := hanc x.1 hxlt hh
              have h2 := (I.mem x.1 (I.lt x hxl)).2 ⟨x.2, hxl⟩
              rw [h1] at h2; simp at h2
          have hin : b + x.1 ∉ ids e := by rw [g2]; exact S.slot i x.1 hlt hxlt (Ne.symm (hne x hx)) hord
          rw [hlen, (apply_get _ _ hids).2.1 _ hin] at hB
          exact hno x hxl B hB)
      unfold wpOpIn
      rw [ho]
      dsimp only
      unfold opGoal at hst
      by_cases hw : Region.wanted o (yielded ops a.tmps) = true
      · rw [if_pos hw] at hst ⊢
        rcases hst with h | ⟨_, h⟩
        · exact wpIn_of_wp (hd i o ho) h
        · exact absurd h hno'
      · rw [if_neg hw] at hst ⊢
        exact ⟨fun _ _ => trivial, hst⟩
end
end Ev
end Go.Proofs.YtjomjfjbpcafhaaDoor
