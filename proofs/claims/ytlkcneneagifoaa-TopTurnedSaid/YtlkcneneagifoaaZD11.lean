/- Texts of a claim, joined. -/
import Derived.Test.YtlkcneneagifoaaZD10
import Derived.Shelf.SlSortCmp.WholeK
import Derived.Laws.AppendOwnNone
import Derived.Test.YtlkcneneagifoaaProg
import Derived.Test.YtlkcneneagifoaaZD9
set_option linter.unusedVariables false
set_option linter.unusedSimpArgs false
section
namespace Go.Proofs.Ytlkcneneagifoaa
open Go.RowKit Go.Sort
set_option linter.unusedVariables false
set_option linter.unusedSimpArgs false
namespace Sm
namespace Tp
open Ev
abbrev ety : K.Ty := .C (.I .i64) (.C (.I .i64) (.I .i64))
def RG (r : Int) : Rg := ⟨ofW, ringAdd r, narrowW⟩
def inB (n : Int) : Bool := decide (-9223372036854775808 ≤ n) && decide (n ≤ 9223372036854775807)
theorem inB_in {n : Int} (h : inB n = true) : In64 n := by simpa [inB, In64] using h
def okB (x : Sl (Int × Int × Int)) : Bool := decide (x.l.length ≤ 90000) && (x.l.all fun e => inB e.1 && (inB e.2.1 && inB e.2.2)) && (decide (x.sz = 3) || x.l.isEmpty) && (x.nn || x.l.isEmpty)
noncomputable def fn (a : Int × Sl (Int × Int × Int)) : Option (Sl (Int × Int × Int) × Int) :=
 if okB a.2 = true then if risL a.2.l = true then some (a.2, 0) else
  let o := sumR (RG a.1) a.2.l
  some (if o.2 = 0 then (⟨true, 3, o.1⟩, 0) else (⟨false, 0, []⟩, o.2)) else none
theorem rd_of {w : World} {F : Nat → Prop} {x : Sl (Int × Int × Int)} {y : Value} (hx : okB x = true) (h : RepT w F (Sl.t ety.row x) y) : ∃ a c, y = .slice a x.l.length c ∧ RdE w a x.l ∧ (a = none → c = 0 ∧ x.l.length = 0) ∧ x.l.length ≤ c ∧ x.nn = a.isSome := by
 obtain ⟨nn, sz, l⟩ := x
 simp only [okB, Bool.and_eq_true, Bool.or_eq_true, decide_eq_true_eq, List.isEmpty_iff] at hx
 unfold Sl.t at h
 cases h with
 | s _ _ _ a c ys hn hc h0 hl hm hr =>
  rw [List.length_map] at hc ⊢
  refine ⟨a, c, rfl, ?_, fun ha => ⟨h0 ha, by have := h0 ha; omega⟩, hc, hn⟩
  intro i hi
  have hsz : sz = 3 := by
   rcases hx.1.2 with h | h
   ·exact h
   ·rw [h] at hi; simp at hi
  subst hsz
  have hil : (l.map ety.row)[i]? = some (ety.row l[i]) := by simp [hi]
  have he : el l i = l[i] := by simp [el, List.getD_eq_getElem?_getD, hi]
  rw [he]
  have g : ∀ j v, (ety.row l[i])[j]? = some (.v v) → ∃ b, a = some b ∧ b.block < w.heap.size ∧ w.cell? (b.add (i * 3 + j)) = some v := by
   intro j v hj
   obtain ⟨b, h1, h2, _, h3⟩ := hm i _ j _ hil hj
   refine ⟨b, h1, h2, ?_⟩
   have := hr i _ j _ hil hj
   rw [h3]
   generalize ys i j = y at this
   cases this with | v x hx => rfl
  obtain ⟨b, e0, h1, c0⟩ := g 0 (.int .i64 l[i].1) rfl
  obtain ⟨b1, e1, _, c1⟩ := g 1 (.int .i64 l[i].2.1) rfl
  obtain ⟨b2, e2, _, c2⟩ := g 2 (.int .i64 l[i].2.2) rfl
  rw [e0] at e1 e2
  cases e1; cases e2
  refine ⟨b, e0, h1, by simpa using c0, ?_, ?_⟩
  ·rw [add_succ] at c1; exact c1
  ·rw [add_succ, add_succ] at c2; exact c2
theorem rep_of {base : Nat} {w : World} {F : Nat → Prop} {a : Option Addr} {c : Nat} {l : List (Int × Int × Int)} (h : Out base w a c l) (hF : ∀ b, F b → b < base) (hne : l ≠ [] ∨ a ≠ none) : RepT w F (Sl.t ety.row ⟨true, 3, l⟩) (.slice a l.length c) := by
 obtain ⟨h1, h2, h3, h4⟩ := h
 obtain ⟨b0, rfl⟩ : ∃ b0, a = some b0 := by
  cases a with
  | some b => exact ⟨b, rfl⟩
  | none => exact absurd (List.eq_nil_of_length_eq_zero (h2 rfl).2) (hne.resolve_right (by simp))
 have key := RepT.s (w := w) (F := F) true 3 (l.map ety.row) (some b0) c (fun i j => match j with
  | 0 => .int .i64 (el l i).1
  | 1 => .int .i64 (el l i).2.1
  | _ => .int .i64 (el l i).2.2) rfl (by simpa using h3) (by simp) (fun i e hi => by
   rw [List.getElem?_map, Option.map_eq_some_iff] at hi
   obtain ⟨x, _, rfl⟩ := hi
   rfl) ?_ ?_
 ·rw [List.length_map] at key; exact key
 ·intro i e j t hi hj
  rw [List.getElem?_map, Option.map_eq_some_iff] at hi
  obtain ⟨x, hx, rfl⟩ := hi
  have hil : i < l.length := (List.getElem?_eq_some_iff.1 hx).1
  obtain ⟨b, e0, g1, c0, c1, c2⟩ := h1 i hil
  cases e0
  refine ⟨b0, rfl, g1, fun hf => by have := h4 b0 rfl; have := hF _ hf; omega, ?_⟩
  have hj3 : j < 3 := (List.getElem?_eq_some_iff.1 hj).1
  rcases (show j = 0 ∨ j = 1 ∨ j = 2 by omega) with rfl | rfl | rfl
  ·simpa using c0
  ·rw [add_succ]; exact c1
  ·rw [add_succ, add_succ]; exact c2
 ·intro i e j t hi hj
  rw [List.getElem?_map, Option.map_eq_some_iff] at hi
  obtain ⟨x, hx, rfl⟩ := hi
  have hx2 : el l i = x := by simp [el, List.getD_eq_getElem?_getD, hx]
  have hj3 : j < 3 := (List.getElem?_eq_some_iff.1 hj).1
  rcases (show j = 0 ∨ j = 1 ∨ j = 2 by omega) with rfl | rfl | rfl
  ·cases hj; simp only [hx2]; exact .v _ rfl
  ·cases hj; simp only [hx2]; exact .v _ rfl
  ·cases hj; simp only [hx2]; exact .v _ rfl
theorem ins_ne (R : Rg) (e : Ed) : ∀ S, ins R S e ≠ []
 | [] => by simp [ins]
 | p :: S => by
  unfold ins
  split
  ·simp
  ·split <;> simp
theorem can_ne {R : Rg} {l : List Ed} (h : l ≠ []) : canS R l ≠ [] := by
 obtain ⟨m, e, rfl⟩ : ∃ m e, l = m ++ [e] := ⟨l.dropLast, l.getLast h, (List.dropLast_concat_getLast h).symm⟩
 rw [canS_snoc]
 exact ins_ne R e _
theorem sum_ne {R : Rg} {l : List Ed} (h : l ≠ []) (h0 : (sumR R l).2 = 0) : (sumR R l).1 ≠ [] := by
 unfold sumR at h0 ⊢
 split at h0
 ·rename_i hc
  rw [if_pos hc]
  simpa using can_ne h
 ·simp at h0
theorem sum_e {R : Rg} {l : List Ed} (h0 : (sumR R l).2 ≠ 0) : sumR R l = ([], 12) := by
 unfold sumR at h0 ⊢
 split at h0
 ·exact absurd rfl h0
 ·rename_i hc; rw [if_neg hc]
set_option maxRecDepth 100000 in
theorem of_calls (x : Int) (hx : In64 x) (W : World) (hL : LD W.heap.size W) : Calls Try.prog 96 #[.int .i64 x] W fun e w' => e = .returned (WV (ofW x)) ∧ Below W.heap.size W w' := by
 have h := K.wide_Of_okB 0 x (ofW x) (wide_Of_w hx)
 exact calls_plain (RunsP.pure K.E1_okB h) rfl rfl W hL
set_option maxRecDepth 100000 in
theorem add_calls (r : Int) (x y : V) (W : World) (hL : LD W.heap.size W) : Calls Try.prog 95 #[.int .i64 r, WV x, WV y] W fun e w' => e = .returned (WV (ringAdd r x y)) ∧ Below W.heap.size W w' := by
 have h := K.ring_Add_okB 0 (r, x, y) (ringAdd r x y) (ring_Add_w r x y)
 exact calls_plain (RunsP.pure K.E1_okB h) rfl rfl W hL
set_option maxRecDepth 100000 in
theorem nar_calls (r : Int) (x : V) (W : World) (hL : LD W.heap.size W) : Calls Try.prog 97 #[.int .i64 r, WV x] W fun e w' => e = .returned (.tuple #[.int .i64 (narrowW x).1, .bool (narrowW x).2]) ∧ Below W.heap.size W w' := by
 have h := K.ring_Narrow_okB 0 (r, x) (narrowW x) (ring_Narrow_w r x)
 exact calls_plain (RunsP.pure K.E1_okB h) rfl rfl W hL
theorem LD.below {w W : World} (hL : LD w.heap.size w) (hb : Below w.heap.size w W) : LD W.heap.size W := (hL.keep (fun _ hs => hb.block 0 hs) hb.size).up hb.size
theorem RepT.below {w W : World} {F F' : Nat → Prop} {t : T} {y : Value} (h : RepT w F t y) (hb : Below w.heap.size w W) (hF : ∀ b, F' b → F b) : RepT W F' t y := h.mono hb.size fun b hlt _ hn => ⟨hb.block b hlt, fun hf => hn (hF b hf)⟩
theorem ord_calls {w : World} {F : Nat → Prop} {x : Sl (Int × Int × Int)} {y : Value} (hr : RepT w F (Sl.t ety.row x) y) (hL : LD w.heap.size w) {b : Bool} (hb : csr_inOrder x = some b) (W : World) (hW : Below w.heap.size w W) : Calls Try.prog 94 #[y] W fun e w' => e = .returned (.bool b) ∧ Below W.heap.size W w' := by
 have h := RunsP.pure K.E1_okB (K.csr_inOrder_okB 0 x b hb)
 refine (h W (fun _ => False) [y] (LD.below hL hW) (fun _ h => h.elim) ⟨rfl, fun i t hi => ?_⟩).mono fun e w' ⟨y', e1, e2, _, e3⟩ => ⟨?_, e3⟩
 ·have h0 : i = 0 := by
   have h1 : i < 1 := (List.getElem?_eq_some_iff.1 hi).1
   omega
  subst h0
  cases hi
  exact ⟨y, rfl, .one _ _ (RepT.below hr hW fun _ h => h.elim)⟩
 ·rw [e1, PR_rep (x := .bool b) rfl w' _ e2]
set_option maxRecDepth 100000 in
theorem rising (r : Int) (a : Option Addr) (n c : Nat) (w : World) (hO : ∀ W, Below w.heap.size w W → Calls Try.prog 94 #[.slice a n c] W fun e w' => e = .returned (.bool true) ∧ Below W.heap.size W w') :
  Calls Try.prog 64 #[.int .i64 r, .slice a n c] w fun e w' => e = .returned (.tuple #[.slice a n c, .int .i64 0]) ∧ Below w.heap.size w w' := by
 have HORD := Lib.hid hO
 clear hO
 go_enter Try.func64, Try.ntmps64
 go_wp2_with fail
 refine (HORD.out w (Below.refl _ _)).mono ?_
 rintro x V ⟨rfl, hbw⟩
 go_wp2
 go_ret2
 exact ⟨rfl, hbw⟩
theorem nil_rep (w : World) (F : Nat → Prop) : RepT w F (Sl.t ety.row ⟨false, 0, []⟩) (.slice none 0 0) := RepT.s (w := w) (F := F) false 0 [] none 0 (fun _ _ => .nilFunc) rfl (Nat.le_refl _) (fun _ => rfl) (fun i e h => by simp at h) (fun i e j t h => by simp at h) (fun i e j t h => by simp at h)
theorem two {w : World} {F : Nat → Prop} {t : T} {y : Value} {e : Int} (h : RepT w F t y) : RepRes w F [.one t, .one (iT .i64 e)] (.tuple #[y, .int .i64 e]) := by
 refine ⟨[y, .int .i64 e], rfl, rfl, fun i t' hi => ?_⟩
 match i, hi with
 | 0, hi => cases hi; exact ⟨y, rfl, .one _ _ h⟩
 | 1, hi => cases hi; exact ⟨_, rfl, .one _ _ (.v _ rfl)⟩
 | i + 2, hi => simp at hi
abbrev ins : List K.TyD := [(false, .I .i64), (false, .S ety)]
abbrev outs : List K.TyD := [(false, .S ety), (false, .I .i64)]
theorem pure_ok (a : K.vals ins) (o : K.vals outs) (h : fn a = some o) : PureOk Try.prog 64 (K.tdsOf ins a) .any (K.tdsOf outs o) := by
 obtain ⟨r, x⟩ := a
 change Int at r
 change Sl (Int × Int × Int) at x
 unfold fn at h
 split at h
 ·rename_i hx
  simp only at hx
  simp only at h
  obtain ⟨b, hb0⟩ : ∃ b, b = risL x.l := ⟨_, rfl⟩
  rw [← hb0] at h
  have hb : csr_inOrder x = some b := by
   have hx2 := hx
   simp only [okB, Bool.and_eq_true, Bool.or_eq_true, decide_eq_true_eq, List.isEmpty_iff, List.all_eq_true] at hx2
   rw [hb0]
   exact csr_inOrder_w hx2.1.2.symm (by omega)
  intro w F ys hL hF hr
  obtain ⟨hlen, hi⟩ := hr
  match ys, hlen with
  | [y0, y1], _ =>
   obtain ⟨y, e1, e2⟩ := hi 0 _ rfl
   simp only [List.getElem?_cons_zero, Option.some.injEq] at e1
   subst e1
   have ey : y0 = .int .i64 r := by
    cases e2 with
    | one t y h => cases h with | v x hx => rfl
   subst ey
   obtain ⟨y, e1, e2⟩ := hi 1 _ rfl
   simp only [List.getElem?_cons_succ, List.getElem?_cons_zero, Option.some.injEq] at e1
   subst e1
   have e3 : RepT w F (Sl.t ety.row x) y1 := by cases e2 with | one t y h => exact h
   clear e2 hi
   obtain ⟨ad, c, rfl, h1, h2, h3, hnn⟩ := rd_of hx e3
   have hO := ord_calls e3 hL hb
   cases b with
   | true =>
    rw [if_pos rfl] at h
    cases h
    refine (rising r ad x.l.length c w hO).mono fun e w' ⟨he, hbl⟩ => ⟨_, he, ?_, fun hk => (by cases hk), hbl⟩
    exact two (RepT.below e3 hbl fun b hb => hb.2.resolve_left (fun h => h rfl))
   | false =>
    rw [if_neg (by simp)] at h
    have hx2 := hx
    simp only [okB, Bool.and_eq_true, Bool.or_eq_true, decide_eq_true_eq, List.isEmpty_iff, List.all_eq_true] at hx2
    have hw := walked r (RG r) ad x.l c w hO (fun z hz W hW => of_calls z hz W (LD.below hL hW)) (fun p q W hW => add_calls r p q W (LD.below hL hW)) (fun p W hW => nar_calls r p W (LD.below hL hW)) h1 (fun e he => by have := hx2.1.1.2 e he; exact ⟨inB_in this.1, inB_in this.2.1, inB_in this.2.2⟩) hx2.1.1.1
    refine hw.mono fun e w' ⟨a', c', he, ho, hbl, hnil⟩ => ⟨_, he, ?_, fun hk => (by cases hk), hbl⟩
    have hne : x.l ≠ [] := by
     intro hn
     rw [hn] at hb0
     cases hb0
    by_cases h0 : (sumR (RG r) x.l).2 = 0
    ·simp only [if_pos h0] at h
     cases h
     rw [h0]
     exact two (rep_of ho (fun b hb => hb.1) (.inl (sum_ne hne h0)))
    ·simp only [if_neg h0] at h
     cases h
     have he := sum_e h0
     rw [he] at ho ⊢
     obtain ⟨g1, g2, g3⟩ := ho
     obtain rfl := hnil h0
     obtain ⟨rfl, _⟩ := g2 rfl
     exact two (nil_rep _ _)
 ·simp at h
theorem enters : Ev.Enters Try.prog 64 := ⟨_, _, Try.func64, by kernel_rfl, by unfold Try.f64; rfl⟩
end Tp
end Sm
end Go.Proofs.Ytlkcneneagifoaa
end
section
namespace Go.Proofs.Ytlkcneneagifoaa
open Go.Shelf Go.RowKit Go.Lib Go.Sort
set_option linter.unusedVariables false
set_option linter.unusedSimpArgs false
namespace Sm
namespace Eg
def sortE_ren : Go.Shelf.Ren := ⟨fun | 6 => 113 | 15 => 120 | 14 => 128 | 28 => 138 | 29 => 139 | 20 => 140 | 21 => 141 | 22 => 142 | 23 => 143 | 24 => 144 | 25 => 145 | 26 => 146 | 27 => 147 | 46 => 153 | 47 => 149 | 48 => 150 | 49 => 154 | 50 => 155 | 57 => 157 | n => n, fun | 22 => 48 | 24 => 55 | 25 => 131 | 3 => 3 | 39 => 125 | 0 => 0 | 53 => 148 | 55 => 113 | 4 => 4 | 46 => 142 | 45 => 141 | 50 => 91 | 5 => 5 | 9 => 9 | 66 => 155 | 70 => 159 | 76 => 163 | 77 => 100 | n => n, fun | n => n⟩
theorem sortE : Go.Proofs.SlLaysF0.n6 Try.prog sortE_ren :=
 {
  mixed := by kernel_rfl,
  f6 := ⟨Try.f113.name, by decide, Try.func113.trans (congrArg some (by kernel_rfl))⟩,
  f14 := ⟨Try.f128.name, by decide, Try.func128.trans (congrArg some (by kernel_rfl))⟩,
  f15 := Try.func120.trans (congrArg some (by kernel_rfl)),
  f20 := ⟨Try.f140.name, by decide, Try.func140.trans (congrArg some (by kernel_rfl))⟩,
  f21 := ⟨Try.f141.name, by decide, Try.func141.trans (congrArg some (by kernel_rfl))⟩,
  f22 := ⟨Try.f142.name, by decide, Try.func142.trans (congrArg some (by kernel_rfl))⟩,
  f23 := ⟨Try.f143.name, by decide, Try.func143.trans (congrArg some (by kernel_rfl))⟩,
  f24 := ⟨Try.f144.name, by decide, Try.func144.trans (congrArg some (by kernel_rfl))⟩,
  f25 := ⟨Try.f145.name, by decide, Try.func145.trans (congrArg some (by kernel_rfl))⟩,
  f26 := ⟨Try.f146.name, by decide, Try.func146.trans (congrArg some (by kernel_rfl))⟩,
  f27 := ⟨Try.f147.name, by decide, Try.func147.trans (congrArg some (by kernel_rfl))⟩,
  f28 := Try.func138.trans (congrArg some (by kernel_rfl)),
  f29 := Try.func139.trans (congrArg some (by kernel_rfl)),
  f46 := ⟨Try.f153.name, by decide, Try.func153.trans (congrArg some (by kernel_rfl))⟩,
  f47 := Try.func149.trans (congrArg some (by kernel_rfl)),
  f48 := Try.func150.trans (congrArg some (by kernel_rfl)),
  f49 := ⟨Try.f154.name, by decide, Try.func154.trans (congrArg some (by kernel_rfl))⟩,
  f50 := ⟨Try.f155.name, by decide, Try.func155.trans (congrArg some (by kernel_rfl))⟩,
  f57 := ⟨Try.f157.name, by decide, Try.func157.trans (congrArg some (by kernel_rfl))⟩,
  t0 := Try.underlying0,
  a0 := Try.isAgg0,
  z0 := Try.sizeOf0,
  v0 := Try.zeroValue0,
  t3 := Try.underlying3,
  a3 := Try.isAgg3,
  z3 := Try.sizeOf3,
  v3 := Try.zeroValue3,
  t4 := Try.underlying4,
  a4 := Try.isAgg4,
  z4 := Try.sizeOf4,
  v4 := Try.zeroValue4,
  t5 := Try.underlying5,
  a5 := Try.isAgg5,
  z5 := Try.sizeOf5,
  v5 := Try.zeroValue5,
  t9 := Try.underlying9,
  a9 := Try.isAgg9,
  z9 := Try.sizeOf9,
  v9 := Try.zeroValue9,
  t22 := Try.underlying48,
  a22 := Try.isAgg48,
  z22 := Try.sizeOf48,
  v22 := Try.zeroValue48,
  t25 := Try.underlying131,
  a25 := Try.isAgg131,
  z25 := Try.sizeOf131,
  v25 := Try.zeroValue131,
  t39 := Try.underlying125,
  a39 := Try.isAgg125,
  z39 := Try.sizeOf125,
  v39 := Try.zeroValue125,
  t45 := Try.underlying141,
  a45 := Try.isAgg141,
  z45 := Try.sizeOf141,
  v45 := Try.zeroValue141,
  t46 := Try.underlying142,
  a46 := Try.isAgg142,
  z46 := Try.sizeOf142,
  v46 := Try.zeroValue142,
  t50 := Try.underlying91,
  a50 := Try.isAgg91,
  z50 := Try.sizeOf91,
  v50 := Try.zeroValue91,
  t53 := Try.underlying148,
  a53 := Try.isAgg148,
  z53 := Try.sizeOf148,
  v53 := Try.zeroValue148,
  t55 := Try.underlying113,
  a55 := Try.isAgg113,
  z55 := Try.sizeOf113,
  v55 := Try.zeroValue113,
  t66 := Try.underlying155,
  a66 := Try.isAgg155,
  z66 := Try.sizeOf155,
  v66 := Try.zeroValue155,
  t70 := Try.underlying159,
  a70 := Try.isAgg159,
  z70 := Try.sizeOf159,
  v70 := Try.zeroValue159,
  t76 := Try.underlying163,
  a76 := Try.isAgg163,
  z76 := Try.sizeOf163,
  v76 := Try.zeroValue163,
  t77 := Try.underlying100,
  a77 := Try.isAgg100,
  z77 := Try.sizeOf100,
  v77 := Try.zeroValue100 }
@[go_sem] abbrev EV (e : Ed) : Value := .agg #[.int .i64 e.1, .int .i64 e.2.1, .int .i64 e.2.2]
def enc (e : Ed) : List Value := [.int .i64 e.1, .int .i64 e.2.1, .int .i64 e.2.2]
def RdE (w : World) (a : Option Addr) (l : List Ed) : Prop := ∀ i, i < l.length → ∃ b, a = some b ∧ b.block < w.heap.size ∧ w.cell? (b.add (i * 3)) = some (.int .i64 (el l i).1) ∧ w.cell? ⟨b.block, (b.add (i * 3)).off + 1, none⟩ = some (.int .i64 (el l i).2.1) ∧ w.cell? ⟨b.block, (b.add (i * 3)).off + 2, none⟩ = some (.int .i64 (el l i).2.2)
theorem RdE.below {w w' : World} {a : Option Addr} {l : List Ed} (h : RdE w a l) (hb : Below w.heap.size w w') : RdE w' a l := by
 intro i hi
 obtain ⟨b, e, hl, h0, h1, h2⟩ := h i hi
 exact ⟨b, e, Nat.lt_of_lt_of_le hl hb.size, (hb.cell (by rw [blk_add]; exact hl)).trans h0, (hb.cell (p := ⟨b.block, _, none⟩) hl).trans h1, (hb.cell (p := ⟨b.block, _, none⟩) hl).trans h2⟩
def cmpE (a b : Ed) : Int := orI (cmpI a.1 b.1) (cmpI a.2.1 b.2.1)
theorem cmpE_lt (a b : Ed) : cmpE a b < 0 ↔ klt (key a) (key b) = true := by
 unfold cmpE orI cmpI klt key
 simp only [decide_eq_true_eq]
 split <;> split <;> (try split) <;> omega
theorem isNaN_same (x : Int) (w : World) : Calls Try.prog 126 #[.int .i64 x] w fun e w' => e = .returned (.bool false) ∧ w' = w := by
 go_enter Try.func126, Try.ntmps126
 go_wp2
 go_ret
 exact ⟨by simp, rfl⟩
set_option maxRecDepth 100000 in
theorem compareI_same (x y : Int) (w : World) : Calls Try.prog 122 #[.int .i64 x, .int .i64 y] w fun e w' => e = .returned (.int .i64 (cmpI x y)) ∧ w' = w := by
 go_enter Try.func122, Try.ntmps122
 go_wp2_with (go_at_call 126; refine (isNaN_same _ _).mono ?_; rintro e w1 ⟨rfl, rfl⟩)
 all_goals go_ret
 ·refine ⟨by unfold cmpI; rw [if_pos (by assumption)]; rfl, rfl⟩
 ·refine ⟨by unfold cmpI; rw [if_neg (by omega), if_pos (by assumption)]; rfl, rfl⟩
 ·refine ⟨by unfold cmpI; rw [if_neg (by omega), if_neg (by omega)]; rfl, rfl⟩
set_option maxRecDepth 100000 in
theorem cmpOr_same (x y : Int) (w : World) (g : Nat) (h : w.heap[g]? = some (.cells #[.int .i64 x, .int .i64 y] 3 (0, 0))) :
  Calls Try.prog 121 #[.slice (some ⟨g, 0, none⟩) 2 2] w fun e w' => e = .returned (.int .i64 (orI x y)) ∧ w' = w := by
 have c0 : w.cell? ⟨g, 0, none⟩ = some (.int .i64 x) := by simp [World.cell?, h]
 have c1 : w.cell? ⟨g, 1, none⟩ = some (.int .i64 y) := by simp [World.cell?, h]
 have kg : Has w g := (Array.getElem?_eq_some_iff.1 h).1
 go_enter Try.func121, Try.ntmps121
 by_cases hx : x = 0
 ·subst hx
  by_cases hy : y = 0
  ·subst hy
   go_wp2
   refine wp_loop_rounds 3 ?_
   rw [rounds_succ]; go_wp2
   rw [rounds_succ]; go_wp2
   rw [rounds_succ]; go_wp2
   go_ret
   exact ⟨by simp [orI], rfl⟩
  ·go_wp2
   refine wp_loop_rounds 2 ?_
   rw [rounds_succ]; go_wp2
   rw [rounds_succ]; go_wp2
   go_ret
   exact ⟨by simp [orI], rfl⟩
 ·go_wp2
  refine wp_loop_rounds 1 ?_
  rw [rounds_succ]; go_wp2
  go_ret
  exact ⟨by simp [orI, hx], rfl⟩
theorem cmpOr_new2 (x y : Int) (V : World) (g : Nat) (hg : g = V.heap.size) :
  Calls Try.prog 121 #[.slice (some ⟨g, 0, none⟩) 2 2] (V.alloc (.cells #[.int .i64 x, .int .i64 y] 3 (0, 0))) fun e w' => e = .returned (.int .i64 (orI x y)) ∧ w' = (V.alloc (.cells #[.int .i64 x, .int .i64 y] 3 (0, 0))) := by
 subst hg
 exact cmpOr_same x y _ _ (World.alloc_heap_new V _)
theorem grow3 (w : World) (n : Nat) (a b c : Obj) : ∃ q os', (((w.alloc a).alloc b).drewN n).alloc c = grow (w.drewN q) os' := ⟨n, #[a] ++ (#[b] ++ #[c]), by
 rw [alloc_eq_grow _ c, alloc_eq_grow _ b, alloc_eq_grow _ a]
 show grow (grow (grow (w.drewN n) #[a]) #[b]) #[c] = _
 rw [Go.Sort.grow_grow, Go.Sort.grow_grow]⟩
attribute [local irreducible] cmpI orI in
set_option maxRecDepth 100000 in
theorem cmp_drewn (a b : Ed) (w : World) : Calls Try.prog 114 #[EV a, EV b] w fun e w' => e = .returned (.int .i64 (cmpE a b)) ∧ ∃ q os', w' = grow (w.drewN q) os' := by
 go_enter Try.func114, Try.ntmps114
 go_wp2_with fail
 refine wp_region_quiet_tail (C := fun w' => ∃ n, w' = World.drewN _ n) 10 (by kernel_rfl) (by kernel_rfl) ⟨1, rfl⟩ ?_
 simp only [List.take_succ_cons, List.take_zero, List.drop_succ_cons, List.drop_zero]
 repeat (go_big_quiet_step (first | (go_at_call 122; exact (compareI_same _ _ _).mono fun _ _ ⟨he, hw⟩ => ⟨he, _, hw⟩)))
 refine wpQuiet_nil ?_
 rintro _ ⟨n, rfl⟩
 go_wp2_with fail
 refine (cmpOr_new2 (cmpI a.1 b.1) (cmpI a.2.1 b.2.1) _ _ (by simp [go_sem])).mono ?_
 rintro e w1 ⟨rfl, rfl⟩
 go_wp2
 go_ret
 exact ⟨rfl, grow3 _ _ _ _ _⟩
def cellsE (l : List Ed) : List Value := l.flatMap enc
theorem cellsE_cons (e : Ed) (l : List Ed) : cellsE (e :: l) = enc e ++ cellsE l := rfl
theorem cellsE_app (l m : List Ed) : cellsE (l ++ m) = cellsE l ++ cellsE m := by simp [cellsE]
theorem cellsE_len (l : List Ed) : (cellsE l).length = l.length * 3 := by
 induction l with
 | nil => rfl
 | cons e l ih => rw [cellsE_cons, List.length_append, ih]; simp [enc]; omega
theorem cellsE_at : ∀ (l : List Ed) (i k : Nat), i < l.length → k < 3 → (cellsE l)[i * 3 + k]? = (enc (el l i))[k]?
 | [], i, k, h, _ => by simp at h
 | e :: l, 0, k, h, hk => by
  rw [cellsE_cons, List.getElem?_append_left (by simp [enc]; omega)]
  simp [el]
 | e :: l, i + 1, k, h, hk => by
  rw [cellsE_cons, List.getElem?_append_right (by simp [enc]; omega)]
  have : (i + 1) * 3 + k - (enc e).length = i * 3 + k := by simp [enc]; omega
  rw [this, cellsE_at l i k (by simpa using h) hk]
  simp [el]
theorem cellsE_one (l : List Ed) : ∀ u ∈ cellsE l, u.oneCell' = true := by
 intro u hu
 obtain ⟨e, _, he⟩ := List.mem_flatMap.1 hu
 simp [enc] at he
 rcases he with rfl | rfl | rfl <;> rfl
theorem rdE_cells {w : World} {g : Nat} {l : List Ed} (hg : g < w.heap.size) (hc : ∀ i, i < l.length → ∀ k, k < 3 → w.cell? ⟨g, i * 3 + k, none⟩ = (enc (el l i))[k]?) : RdE w (some ⟨g, 0, none⟩) l := by
 intro i hi
 have e : (⟨g, 0, none⟩ : Addr).add (i * 3) = ⟨g, i * 3, none⟩ := addr0 _ _
 refine ⟨⟨g, 0, none⟩, rfl, hg, ?_, ?_, ?_⟩
 ·rw [e]; simpa [enc] using hc i hi 0 (by omega)
 ·rw [e]; simpa [enc] using hc i hi 1 (by omega)
 ·rw [e]; simpa [enc] using hc i hi 2 (by omega)
theorem row_rdE {w : World} {base n : Nat} {v : Value} {l : List Ed} (h : w.ownsRow base 55 3 v n (cellsE l)) : n = l.length ∧ ∃ a c, v = .slice a n c ∧ n ≤ c ∧ RdE w a l ∧ (a = none → c = 0 ∧ n = 0) := by
 have hn : n = l.length := by have := h.1; rw [cellsE_len] at this; omega
 refine ⟨hn, ?_⟩
 rcases h.2 with ⟨rfl, h0⟩ | ⟨g, cap, cur, rfl, hb, hg, hcap, _⟩
 ·obtain rfl : n = 0 := h0
  exact ⟨none, 0, rfl, by omega, fun i hi => by omega, fun _ => ⟨rfl, rfl⟩⟩
 ·refine ⟨some ⟨g, 0, none⟩, cap, rfl, hcap, ?_, by simp⟩
  refine rdE_cells (Array.getElem?_eq_some_iff.1 hg).1 (fun i hi k hk => ?_)
  rw [h.cellAt (i * 3 + k) (by omega), cellsE_at l i k hi hk]
theorem flat_at (l : List Ed) (i k : Nat) (h : i < l.length) (hk : k < 3) : some (flatK enc 3 l.toArray)[i * 3 + k]! = (enc (el l i))[k]? := by
 rw [get_flatK _ _ _ _ (by simp; omega), show (i * 3 + k) / 3 = i by omega, show (i * 3 + k) % 3 = k by omega, el_arr l i h]
 have : k < (enc (el l i)).length := by simp [enc]; omega
 rw [getElem!_pos (enc (el l i)) k this, List.getElem?_eq_getElem this]
theorem grownBy_sortedE {w : World} {g n : Nat} {os : Array Obj} (F : Array Value) : w.grownBy (grow (putRow id (Sort.ahead w n) g 0 F) os) (some g) := by
 refine ⟨rfl, rfl, rfl, by simp, fun k hk hne => ?_⟩
 rw [heap_grow_old _ _ (by simpa using hk)]
 have : g ≠ k := fun e => hne (by rw [e])
 simp [putRow, mapBlock, Sort.ahead, Array.getElem?_modify, this]
def bl (a b : Ed) : Bool := klt (key a) (key b)
theorem ltOf_bl : ltOf cmpE = bl := by
 funext a b
 unfold ltOf bl
 have := cmpE_lt a b
 cases h : klt (key a) (key b) <;> rw [h] at this <;> simp at this ⊢ <;> exact this
theorem swo_bl : SWO bl where
 irrefl x := by simp [bl, klt]
 trans x y z h1 h2 := by simp [bl, klt] at *; omega
 ntrans x y z h1 h2 := by simp [bl, klt] at *; omega
theorem sortedIn_pw {l : List Ed} (h : SortedIn bl 0 l.length l.toArray) : l.Pairwise (fun a b => bl b a = false) := by
 rw [List.pairwise_iff_getElem]
 intro i j hi hj hij
 have := h i j (by omega) hij hj
 rw [el_arr l i hi, el_arr l j hj] at this
 simpa [el, List.getD_eq_getElem?_getD, hi, hj] using this
set_option maxHeartbeats 1000000 in
theorem sortF_any (g c : Nat) (l : List Ed) (w : World) (hg : g < w.heap.size) (hc : ∀ i, i < l.length → ∀ k, k < 3 → w.cell? ⟨g, i * 3 + k, none⟩ = (enc (el l i))[k]?) (hf : ∀ j, w.frozen? ⟨g, j, none⟩ = false) (hl : l.length < 4611686018427387904) :
  Calls Try.prog 113 #[.slice (some ⟨g, 0, none⟩) l.length c, .func (.func 114) #[] #[]] w fun e w' => e = .returned (.tuple #[]) ∧ ∃ l' : List Ed, l'.Perm l ∧ l'.Pairwise (fun a b => bl b a = false) ∧ RdE w' (some ⟨g, 0, none⟩) l' ∧ w.grownBy w' (some g) := by
 have eg : ∀ args w, (callFunc 114 args).run Try.prog w = .ok (.enter 114 args) w := enters_of Try.func114 (by kernel_rfl) rfl
 have hcmp : CmpLays Try.prog 114 #[] enc 3 cmpE g 0 l.toArray.size w := fun m os dk _ x y => cmp_drewn x y _
 have hH : HoldsK enc 3 w g 0 l.toArray := by
  intro j hj
  have hj' : j < l.length * 3 := by simpa using hj
  refine ⟨?_, hf _⟩
  have := hc (j / 3) (by omega) (j % 3) (by omega)
  rw [Nat.zero_add, show j = j / 3 * 3 + j % 3 by omega, this, ← flat_at l _ _ (by omega) (by omega)]
  rfl
 have hO : SWO (ltOf cmpE) := by rw [ltOf_bl]; exact swo_bl
 have hcon := AnyQ.slices_SortFunc sortE 3 Try.isAgg55 Try.sizeOf55 enc (fun _ => rfl) (fun x v hv => by simp [enc] at hv; rcases hv with rfl | rfl | rfl <;> rfl) cmpE hO 114 #[] g 0 c l.toArray w eg hcmp hH hg (by simpa using hl)
 refine hcon.mono ?_
 rintro e w' ⟨rfl, d', n, os, hp, hs, rfl⟩
 obtain ⟨l', rfl⟩ : ∃ l' : List Ed, d' = l'.toArray := ⟨d'.toList, by simp⟩
 have hsz : l'.length = l.length := by simpa using hp.1
 refine ⟨rfl, l', ?_, ?_, ?_, ?_⟩
 ·have := hp.2.2
  rw [show l.toArray.size = l'.toArray.size by simpa using hsz.symm] at this
  rw [Array.extract_size] at this
  have h2 := hp.2.2
  rw [show l.toArray.size = l'.toArray.size by simpa using hsz.symm] at h2
  rw [Array.extract_size] at h2
  refine h2.trans ?_
  rw [show l'.toArray.size = l.toArray.size by simpa using hsz, Array.extract_size]
 ·rw [ltOf_bl] at hs
  exact sortedIn_pw (by rw [hsz]; simpa using hs)
 ·refine rdE_cells ?_ (fun i hi k hk => ?_)
  ·simp [sortWorldK, putRowK]
   omega
  ·have hH2 := holds_putRow id (Sort.ahead w n) g 0 _ (flatK enc 3 l'.toArray) (show Holds id (Sort.ahead w n) g 0 (flatK enc 3 l.toArray) from hH) (by simp [hsz]) (i * 3 + k) (by simp; omega)
   rw [Nat.zero_add] at hH2
   unfold sortWorldK
   rw [cell?_grow _ _ _ (by simpa [putRowK] using hg)]
   exact hH2.1.trans (flat_at l' i k hi hk)
 ·exact grownBy_sortedE _
theorem infoE : (Try.prog.info? 55).map (fun i => (i.zero, i.size, i.bytes)) = some (some (.agg #[.int .i64 0, .int .i64 0, .int .i64 0]), 3, 24) := by kernel_rfl
theorem info_partsE {P : Program} {e : TypeId} {z : Value} {s b : Nat} (h : (P.info? e).map (fun i => (i.zero, i.size, i.bytes)) = some (some z, s, b)) : ∃ i, P.info? e = some i ∧ i.zero = some z ∧ i.size = s ∧ i.bytes = b := by
 obtain ⟨i, hi, he⟩ := Option.map_eq_some_iff.1 h
 simp at he
 exact ⟨i, hi, he.1, he.2.1, he.2.2⟩
theorem rdE_news {w : World} {b : Addr} {M : List Ed} (hr : RdE w (some b) M) : ∀ j u, (cellsE M)[j]? = some u → w.cell? (b.add j) = some u := by
 intro j u hj
 have hj' : j < M.length * 3 := by have := (List.getElem?_eq_some_iff.1 hj).1; rwa [cellsE_len] at this
 have hc := cellsE_at M (j / 3) (j % 3) (by omega) (by omega)
 rw [show j / 3 * 3 + j % 3 = j by omega, hj] at hc
 obtain ⟨b', hb', _, h0, h1, h2⟩ := hr (j / 3) (by omega)
 cases hb'
 have h3 : j % 3 = 0 ∨ j % 3 = 1 ∨ j % 3 = 2 := by omega
 rcases h3 with h3 | h3 | h3
 ·rw [h3] at hc
  simp [enc] at hc
  rw [hc, show j = j / 3 * 3 by omega]
  rw [show (j / 3 * 3) / 3 = j / 3 by omega]
  exact h0
 ·rw [h3] at hc
  simp [enc] at hc
  rw [hc]
  have e : b.add j = ⟨b.block, (b.add (j / 3 * 3)).off + 1, none⟩ := by
   rw [show j = j / 3 * 3 + 1 by omega, add_succ]
   rw [show (j / 3 * 3 + 1) / 3 = j / 3 by omega]
  rw [e]; exact h1
 ·rw [h3] at hc
  simp [enc] at hc
  rw [hc]
  have e : b.add j = ⟨b.block, (b.add (j / 3 * 3)).off + 2, none⟩ := by
   rw [show j = j / 3 * 3 + 1 + 1 by omega, add_succ, add_succ]
   rw [show (j / 3 * 3 + 1 + 1) / 3 = j / 3 by omega]
  rw [e]; exact h2
theorem wpList_append_rdE {w : World} {ops : Array Oper} {rest : List Oper} {o : Oper} {a : Act} {Q : Exit → Act → World → Prop} (hgd : o.guard = none) (s x : Operand)
  (ho : o.op = .call { callee := .builtin .append, args := #[s, x], argTypes := #[48, 48] }) (base : Nat) (v : Value) (n : Nat) (L : List Ed) (hs : a.eval s = v) (hown : w.ownsRow base 55 3 v n (cellsE L))
  (ad : Option Addr) (m c : Nat) (M : List Ed) (hx : a.eval x = .slice ad m c) (hm : m = M.length) (hr : RdE w ad M) (hz : ad = none → c = 0 ∧ m = 0) (hnm : n + m ≤ 100000) (hbase : base ≤ w.heap.size)
  (h : ∀ v' w', w'.ownsRow base 55 3 v' (n + m) (cellsE (L ++ M)) → w.grownBy w' v.ownBlock → (v'.ownBlock = v.ownBlock ∨ v'.ownBlock = some w.heap.size) → wpList Try.prog ops Q rest (a.put o.dst v') w') : wpList Try.prog ops Q (o :: rest) a w := by
 obtain ⟨i0, hi0, hz0, hz1, hz2⟩ := info_partsE infoE
 subst hm
 match ad, hr, hz, hx with
 | none, hr, hz, hx =>
  obtain ⟨rfl, h0⟩ := hz rfl
  obtain rfl : M = [] := List.eq_nil_of_length_eq_zero h0
  refine wpList_append_own_none hgd s x 48 ho base 55 i0 3 Try.underlying48 hi0 v n _ hs hown hx (h v w ?_ ⟨rfl, rfl, rfl, Nat.le_refl _, fun _ _ _ => rfl⟩ (.inl rfl))
  simpa using hown
 | some b, hr, hz, hx =>
  have hnews := rdE_news hr
  exact wpList_append_own_at w hgd s x 48 ho base 55 i0 (.agg #[.int .i64 0, .int .i64 0, .int .i64 0]) 3 24 Try.underlying48 hi0 hz0 hz1 hz2 rfl (by decide) v n (cellsE L) hs hown b M.length c (cellsE M) hx (cellsE_len M) hnews (cellsE_one M) (by unfold maxLen; omega) (by omega) hbase
   fun v' w' hown' hg _ hat => h v' w' (by rw [cellsE_app]; exact hown') hg hat
theorem below_app {W w' : World} {base : Nat} {v : Value} (hg : W.grownBy w' v.ownBlock) (hv : ∀ k, v.ownBlock = some k → base ≤ k) (hb : base ≤ W.heap.size) : Below base W w' :=
 ⟨hg.os, hg.tape, hg.output, hg.size, fun k hk => hg.block k (by omega) (fun e => by have := hv k e.symm; omega)⟩
def Out (base : Nat) (w : World) (a : Option Addr) (c : Nat) (l : List Ed) : Prop := RdE w a l ∧ (a = none → c = 0 ∧ l.length = 0) ∧ l.length ≤ c ∧ ∀ b, a = some b → base ≤ b.block
theorem out_nil (base : Nat) (w : World) : Out base w none 0 [] := ⟨fun i hi => by simp at hi, fun _ => ⟨rfl, rfl⟩, by simp, by simp⟩
theorem row_some {w : World} {base n k s : Nat} {e : TypeId} {v : Value} {xs : List Value} (h : w.ownsRow base e s v n xs) (hk : v.ownBlock = some k) : ∃ cap, v = .slice (some ⟨k, 0, none⟩) n cap := by
 rcases h.2 with ⟨rfl, _⟩ | ⟨g, cap, cur, rfl, _⟩
 ·cases hk
 ·cases hk; exact ⟨cap, rfl⟩
theorem row_mono {w : World} {base base' n : Nat} {e : TypeId} {v : Value} {s : Nat} {xs : List Value} (h : w.ownsRow base e s v n xs) (hb : base' ≤ base) : w.ownsRow base' e s v n xs := by
 refine ⟨h.1, ?_⟩
 rcases h.2 with h2 | ⟨g, cap, cur, h1, h2, h3⟩
 ·exact .inl h2
 ·exact .inr ⟨g, cap, cur, h1, Nat.le_trans hb h2, h3⟩
theorem rdE_one (W : World) (x y z : Int) : RdE (W.alloc (.cells #[.int .i64 x, .int .i64 y, .int .i64 z] 55)) (some ⟨W.heap.size, 0, none⟩) [(x, y, z)] := by
 have h : CellsAt (W.alloc (.cells #[.int .i64 x, .int .i64 y, .int .i64 z] 55)) W.heap.size 55 #[.int .i64 x, .int .i64 y, .int .i64 z] := World.alloc_heap_new W _
 refine rdE_cells h.lt (fun i hi k hk => ?_)
 obtain rfl : i = 0 := by simpa using hi
 rw [h.cell]
 have h3 : k = 0 ∨ k = 1 ∨ k = 2 := by omega
 rcases h3 with rfl | rfl | rfl <;> rfl
end Eg
end Sm
end Go.Proofs.Ytlkcneneagifoaa
end
section
namespace Go.Proofs.Ytlkcneneagifoaa
open Go.RowKit Go.Sort
set_option linter.unusedVariables false
set_option linter.unusedSimpArgs false
namespace Sm
namespace Eg
def InE (e : Ed) : Prop := In64 e.1 ∧ In64 e.2.1 ∧ In64 e.2.2
theorem makeMapK (V : World) (n : Nat) : (Instr.makeMap 112 (some (.int .i64 n))).run Try.prog V = .ok (.map (some V.heap.size)) (V.alloc (.map #[] 0)) := by
 simp [Instr.makeMap, run_underlying Try.underlying112, asInt, asIntOf, Result.andThen]
set_option maxRecDepth 100000 in
set_option maxHeartbeats 4000000 in
theorem walked (r : Int) (R : Rg) (a : Option Addr) (l : List Ed) (c : Nat) (w : World) (hIs : ∀ W, Below w.heap.size w W → Calls Try.prog 62 #[.int .i64 r] W fun e w' => e = .returned (.bool true) ∧ Below W.heap.size W w') (hO : ∀ W, Below w.heap.size w W → Calls Try.prog 111 #[.slice a l.length c] W fun e w' => e = .returned (.bool false) ∧ Below W.heap.size W w')
  (hOf : ∀ x, In64 x → ∀ W, Below w.heap.size w W → Calls Try.prog 96 #[.int .i64 x] W fun e w' => e = .returned (WV (R.o x)) ∧ Below W.heap.size W w')
  (hAdd : ∀ x y W, Below w.heap.size w W → Calls Try.prog 95 #[.int .i64 r, WV x, WV y] W fun e w' => e = .returned (WV (R.ad x y)) ∧ Below W.heap.size W w')
  (hNar : ∀ x W, Below w.heap.size w W → Calls Try.prog 97 #[.int .i64 r, WV x] W fun e w' => e = .returned (.tuple #[.int .i64 (R.na x).1, .bool (R.na x).2]) ∧ Below W.heap.size W w')
  (hr : RdE w a l) (hI : ∀ e ∈ l, InE e) (hl : l.length ≤ 90000) :
  Calls Try.prog 93 #[.int .i64 r, .slice a l.length c] w fun e w' => ∃ a' c', e = .returned (.tuple #[.slice a' (sumR R l).1.length c', .int .i64 (sumR R l).2]) ∧ Out w.heap.size w' a' c' (sumR R l).1 ∧ Below w.heap.size w w' ∧ ((sumR R l).2 ≠ 0 → a' = none) := by
 obtain ⟨n, hn⟩ : ∃ n, n = l.length := ⟨_, rfl⟩
 rw [← hn] at hl hO ⊢
 have HN := Lib.hid hn
 clear hn
 generalize hcr : sumR R l = RS
 have HCR := Lib.hid hcr
 clear hcr
 have HOf := Lib.hid hOf
 have HAdd := Lib.hid hAdd
 have HNar := Lib.hid hNar
 clear hOf hAdd hNar
 have HORD := Lib.hid hO
 clear hO
 have HI := Lib.hid hIs
 clear hIs
 go_enter Try.func93, Try.ntmps93
 go_wp2_with fail
 refine (HI.out w (Below.refl _ _)).mono ?_
 rintro x w1 ⟨rfl, hb1⟩
 go_wp2_with fail
 refine (HORD.out w1 hb1).mono ?_
 rintro x V ⟨rfl, hb2⟩
 have hbw := hb1.trans (hb2.mono hb1.size)
 clear hb1 hb2 HORD HI
 have hmk := makeMapK V n
 have hM0 := MapF.new V
 go_wp2_with fail
 obtain ⟨B, hB⟩ : ∃ B, B = V.heap.size := ⟨_, rfl⟩
 have hb1 := bl1 V (.map #[] 0)
 rw [← hB] at hM0 ⊢
 generalize V.alloc (.map #[] 0) = W1 at hM0 hb1 ⊢
 have hVB : w.heap.size ≤ B := by rw [hB]; exact hbw.size
 have hbw1 : Below w.heap.size w W1 := hbw.trans (hb1.mono hbw.size)
 clear hmk hB hb1 hbw
 go_loopw [29] (fun y wr => ∃ j : Nat, y = .int .i64 (j : Int) ∧ j ≤ n ∧ MapF wr B j (fm R (l.take j)) ∧ Below w.heap.size w wr) (fun y _ => n - (intOf y).toNat)
 case atStart => exact ⟨0, rfl, by omega, hM0, hbw1⟩
 case round =>
  clear hM0 hbw1
  obtain ⟨j, rfl, hj, hM, hBw⟩ := hrel
  by_cases hlt : (j : Int) < (n : Int)
  ·obtain ⟨b, rfl, hbl, c0, c1, c2⟩ := (hr.below hBw) j (by rw [← HN.out]; omega)
   have j0 : (0 : Int) ≤ (j : Int) := by omega
   have kb := Has.of hbl
   have hIe := hI _ (el_mem (show j < l.length by rw [← HN.out]; omega))
   have hk : In2 (key (el l j)) := ⟨hIe.1, hIe.2.1⟩
   have hw1 := hIe.2.2
   have HT := Lib.hid (fm_snoc R (l.take j) (el l j))
   have HT2 := Lib.hid (take_el (l := l) (j := j) (by rw [← HN.out]; omega))
   generalize hf : fm R (l.take j) = f at hM HT
   clear hf
   obtain ⟨ej, hej⟩ : ∃ ej, ej = el l j := ⟨_, rfl⟩
   rw [← hej] at c0 c1 c2 hk hw1 HT HT2
   clear hej hIe
   go_wp2_with (at_lookup; refine wpList_lookupF _ rfl _ _ rfl B j f (key ej) rfl ((hM.alloc _).alloc _) rfl hk ?_ ?_)
   ·intro hf
    rw [upd_none hf] at HT
    go_wp2_with fail
    refine wp_region_grown_tail 5 (by kernel_rfl) (by kernel_rfl) ?_
    simp only [List.take_succ_cons, List.take_zero, List.drop_succ_cons, List.drop_zero]
    repeat (go_big_quiet_step (first | (go_at_call 96; exact Calls.regrown_of (HOf.out _ hw1 _ (hBw.trans (Below.mono (show Below wr.heap.size wr _ from (by repeat (first | with_reducible refine blg ?_ _ _ | with_reducible refine bla ?_ _ | with_reducible exact Below.refl _ _))) hBw.size))))))
    refine wpQuiet_nil ?_
    rintro _ ⟨⟨d2, o2⟩, rfl⟩
    go_wp2_with (at_mapUpdate; refine wpList_updateF _ rfl _ _ _ rfl B j f (key ej) (R.o ej.2.2) (by unfold maxLen; omega) rfl ((((hM.alloc _).alloc _).alloc _).kept (grownBy_of_below (below_regrown _ _ _) none) (by simp)) rfl rfl hk ?_; intro w' hM' hg')
    refine ⟨?_, by simp [intOf]; omega⟩
    refine ⟨j + 1, by simp, by omega, by rw [HT2.out, HT.out]; exact hM', ?_⟩
    have hbU : Below wr.heap.size wr (grow (redrawn (((wr.alloc (.cells #[.int .i64 ej.1, .int .i64 ej.2.1, .int .i64 ej.2.2] 55)).alloc (.cells #[.int .i64 ej.1, .int .i64 ej.2.1] 23)).alloc (.cells #[.int .i64 0, .int .u64 0] 115)) d2) o2) := (by repeat (first | with_reducible refine blg ?_ _ _ | with_reducible refine bla ?_ _ | with_reducible exact Below.refl _ _))
    exact (hBw.trans (hbU.mono hBw.size)).trans (below_of_grownBy hg' (hBw.trans (hbU.mono hBw.size)).size hVB)
   ·intro z1 z2 hf
    rw [upd_some hf] at HT
    go_wp2_with fail
    refine wp_region_grown_tail 8 (by kernel_rfl) (by kernel_rfl) ?_
    simp only [List.take_succ_cons, List.take_zero, List.drop_succ_cons, List.drop_zero]
    repeat (go_big_quiet_step (first | (go_at_call 96; exact Calls.regrown_of (HOf.out _ hw1 _ (hBw.trans (Below.mono (show Below wr.heap.size wr _ from (by repeat (first | with_reducible refine blg ?_ _ _ | with_reducible refine bla ?_ _ | with_reducible exact Below.refl _ _))) hBw.size)))) | (go_at_call 95; exact Calls.regrown_of (HAdd.out (z1, z2) _ _ (hBw.trans (Below.mono (show Below wr.heap.size wr _ from (by repeat (first | with_reducible refine blg ?_ _ _ | with_reducible refine bla ?_ _ | with_reducible exact Below.refl _ _))) hBw.size))))))
    refine wpQuiet_nil ?_
    rintro _ ⟨⟨d2, o2⟩, rfl⟩
    go_wp2_with (at_mapUpdate; refine wpList_updateF _ rfl _ _ _ rfl B j f (key ej) (R.ad (z1, z2) (R.o ej.2.2)) (by unfold maxLen; omega) rfl ((((hM.alloc _).alloc _).alloc _).kept (grownBy_of_below (below_regrown _ _ _) none) (by simp)) rfl rfl hk ?_; intro w' hM' hg')
    refine ⟨?_, by simp [intOf]; omega⟩
    refine ⟨j + 1, by simp, by omega, by rw [HT2.out, HT.out]; exact hM', ?_⟩
    have hbU : Below wr.heap.size wr (grow (redrawn (((wr.alloc (.cells #[.int .i64 ej.1, .int .i64 ej.2.1, .int .i64 ej.2.2] 55)).alloc (.cells #[.int .i64 ej.1, .int .i64 ej.2.1] 23)).alloc (.cells #[.int .i64 z1, .int .u64 z2] 115)) d2) o2) := (by repeat (first | with_reducible refine blg ?_ _ _ | with_reducible refine bla ?_ _ | with_reducible exact Below.refl _ _))
    exact (hBw.trans (hbU.mono hBw.size)).trans (below_of_grownBy hg' (hBw.trans (hbU.mono hBw.size)).size hVB)
  ·obtain rfl : j = n := by omega
   have hle := hBw.size
   rw [List.take_of_length_le (by rw [← HN.out]; exact Nat.le_refl _)] at hM
   clear hlt hj
   obtain ⟨i0, hi0, hz0, hz1, hz2⟩ := info_partsE infoE
   go_wp2_with (first
    | (at_len; refine wpList_lenF _ rfl _ rfl B j (fm R l) rfl hM ?_; intro m hm; obtain ⟨V2, hmk, hown, hgn⟩ := run_makeSlice_owned (P := Try.prog) (w := wr) wr.heap.size 48 55 i0 (.agg #[.int .i64 0, .int .i64 0, .int .i64 0]) 3 Try.underlying48 hi0 hz0 hz1 .i64 .i64 m (by omega) (by rw [hz2]; omega) (by unfold maxLen; omega) (Nat.le_refl _); have hM2 := hM.kept hgn (by simp))
    | (at_range; refine wpList_rangeF _ rfl _ rfl B j (fm R l) rfl hM2 ?_; intro V3 hR3 hg3 hs3))
   have hBl := hM.lt
   have hB2 : Below w.heap.size w V2 := hBw.trans ((below_of_grownNone hgn).mono hle)
   obtain ⟨g0, hg0⟩ : ∃ g0, g0 = wr.heap.size := ⟨_, rfl⟩
   rw [← hg0] at hown hBl ⊢
   have hg0V : g0 < V2.heap.size := (hown.lt g0 rfl).2
   have hwg : w.heap.size ≤ g0 := by rw [hg0]; exact hle
   clear hmk hM hgn hg0 hBw hle
   have hown3 := hown.kept hg3 (.inr (by simp [Value.ownBlock]))
   have hB3 : Below w.heap.size w V3 := hB2.trans ((below_of_grownNone hg3).mono hB2.size)
   obtain ⟨ri, hri⟩ : ∃ ri, ri = V2.heap.size := ⟨_, rfl⟩
   rw [← hri] at hR3 hg0V ⊢
   have hwr : w.heap.size ≤ ri := by rw [hri]; exact hB2.size
   clear hM2 hown hg3 hs3 hri hB2
   go_frame
   go_loopw [12] (fun v wr => ∃ done, RangF wr B ri j (fm R l) done ∧ wr.ownsRow w.heap.size 55 3 v done.length (cellsE (done.map (toE R))) ∧ (∃ k, v.ownBlock = some k ∧ k ≠ ri ∧ k ≠ B) ∧ (∀ p ∈ done, (R.na p.2).2 = true) ∧ Below w.heap.size w wr) (fun _ wr => wr.rangeLeft B ri)
   case atStart => exact ⟨[], hR3, row_mono hown3 hwg, ⟨g0, rfl, by omega, by omega⟩, by simp, hB3⟩
   case round =>
    clear hR3 hown3 hB3
    obtain ⟨done, hR, hown, ⟨kb, hkb, hk1, hk2⟩, hnb, hBw⟩ := hrel
    have hRl := hR.lt
    obtain ⟨cap, rfl⟩ := row_some hown hkb
    clear hkb
    go_wp2_with (at_next; refine wpList_nextF _ rfl _ rfl B ri j (fm R l) done rfl hR ?_ ?_)
    ·intro hall
     have hT : done.Perm (canS R l) := (rep_can R l).perm hR.facts.1 (fun p hp => (hR.facts.2.1 p hp).2) (fun k z hkz => hall k.1 k.2 (by obtain ⟨e, he, rfl⟩ := fm_some hkz; exact ⟨(hI e he).1, (hI e he).2.1⟩) z.1 z.2 hkz)
     have hR0 : sumR R l = ((canS R l).map (toE R), 0) := sumR_all (fun k z hkz => hnb (k, z) (hall k.1 k.2 (by obtain ⟨e, he, rfl⟩ := fm_some hkz; exact ⟨(hI e he).1, (hI e he).2.1⟩) z.1 z.2 hkz))
     rw [HCR.out] at hR0
     have hdl : done.length ≤ j := hR.facts.2.2
     have hkl := hown.lt kb rfl
     have hcap0 : done.length ≤ cap := by
      rcases hown.2 with ⟨h, _⟩ | ⟨g, cap1, cur, h, _, _, h5, _⟩
      ·cases h
      ·cases h; exact h5
     have HSO := sortF_any kb cap (done.map (toE R)) wr hkl.2 (fun i hi k hk => by rw [hown.cellAt (i * 3 + k) (by simp at hi; omega), cellsE_at _ i k hi hk]) (fun j => hown.frozenAt j) (by simp; omega)
     rw [List.length_map] at HSO
     clear hR hall
     go_wp2_with fail
     refine HSO.mono ?_
     rintro x w1 ⟨rfl, l', hp, hs, hrd, hg⟩
     go_wp2
     go_ret2
     have hl' := sorted_is R l l' done hT hp hs
     have hlen : done.length = l'.length := by have := hp.length_eq; simpa using this.symm
     rw [hlen] at hcap0
     refine ⟨some ⟨kb, 0, none⟩, cap, ?_, by rw [hR0, ← hl']; exact ⟨hrd, by simp, hcap0, fun b hb => by cases hb; exact hkl.1⟩, hBw.trans ((below_of_grownBy hg hBw.size hkl.1).mono (Nat.le_refl _)), fun h => absurd (by rw [hR0]) h⟩
     rw [hR0, hlen, hl']
     rfl
    ·intro k1 k2 z1 z2 w' hR' hlt hg hs hen
     have hown' := hown.kept hg (.inr (by simp [Value.ownBlock]; exact hk1))
     have hB' : Below w.heap.size w w' := hBw.trans ((below_of_grownBy hg hBw.size hwr).mono (Nat.le_refl _))
     clear hown hR
     have hwl : w'.heap.size = wr.heap.size := hs
     go_wp2_with fail
     obtain ⟨U, hU⟩ : ∃ U, U = (w'.alloc (.cells #[.int .i64 k1, .int .i64 k2] 23)).alloc (.cells #[.int .i64 z1, .int .u64 z2] 115) := ⟨_, rfl⟩
     rw [← hU]
     have hCU : CellsAt U wr.heap.size 23 #[.int .i64 k1, .int .i64 k2] := by
      have h1 : CellsAt (w'.alloc (.cells #[.int .i64 k1, .int .i64 k2] 23)) w'.heap.size 23 #[.int .i64 k1, .int .i64 k2] := World.alloc_heap_new w' _
      rw [hU, ← hwl]
      exact h1.below (bl1 _ _)
     have hbU : Below w'.heap.size w' U := by rw [hU]; exact bl2 _ _ _
     have hU1 : wr.heap.size < U.heap.size := by rw [hU]; simp; omega
     clear hU hen
     refine (HNar.out (z1, z2) U (hB'.trans (hbU.mono hB'.size))).mono ?_
     rintro x w1 ⟨rfl, hb1⟩
     have hC1 := hCU.below hb1
     have c0 : w1.cell? ⟨wr.heap.size, 0, none⟩ = some (.int .i64 k1) := hC1.cell 0
     have c1 : w1.cell? ⟨wr.heap.size, 1, none⟩ = some (.int .i64 k2) := hC1.cell 1
     have kg := Has.of hC1.lt
     have hbW : Below w'.heap.size w' w1 := hbU.trans (hb1.mono hbU.size)
     have hRW := hR'.kept (grownBy_of_below hbW none) (by simp) (by simp)
     have hownW := hown'.kept (grownBy_of_below hbW none) (.inr (by simp [Value.ownBlock]))
     have hBW : Below w.heap.size w w1 := hB'.trans (hbW.mono hB'.size)
     have hlW := hR'.left (grownBy_of_below hbW none) (by simp) (by simp)
     have hfz := hR'.facts
     clear hbU hb1 hCU hC1 hown'
     cases hz : (R.na (z1, z2)).2
     ·have hR0 := sumR_over (R := R) (l := l) (hfz.2.1 ((k1, k2), (z1, z2)) (by simp)).2 hz
      rw [HCR.out] at hR0
      go_wp2_with fail
      go_ret2
      refine ⟨none, 0, by rw [hR0]; rfl, ?_, hBW, fun _ => rfl⟩
      rw [hR0]
      exact out_nil _ _
     ·have hdl : done.length + 1 ≤ j := by have := hfz.2.2; simpa using this
      go_wp2_with (refine wpList_append_rdE rfl _ _ rfl w.heap.size _ done.length (done.map (toE R)) rfl (hownW.alloc _) _ 1 1 [(k1, k2, (R.na (z1, z2)).1)] rfl rfl (rdE_one _ _ _ _) (by simp) (by omega) (by have := hBW.size; simp; omega) ?_; intro v' w2 hown2 hg2 hat2)
      have hg2' : (w1.alloc (.cells #[.int .i64 k1, .int .i64 k2, .int .i64 ((R.na (z1, z2)).1)] 55)).grownBy w2 (some kb) := hg2
      have hat2' : v'.ownBlock = some kb ∨ v'.ownBlock = some (w1.alloc (.cells #[.int .i64 k1, .int .i64 k2, .int .i64 ((R.na (z1, z2)).1)] 55)).heap.size := hat2
      have hga := World.grownBy_alloc w1 (.cells #[.int .i64 k1, .int .i64 k2, .int .i64 ((R.na (z1, z2)).1)] 55) none
      have hkbl := (hownW.lt kb rfl).1
      have hRA := hRW.kept hga (by simp) (by simp)
      have hlA := hRW.left hga (by simp) (by simp)
      have hB1s := hRW.lt
      refine ⟨⟨done ++ [((k1, k2), (z1, z2))], hRA.kept hg2' (by simp; exact Ne.symm hk2) (by simp; exact Ne.symm hk1), ?_, ?_, ?_, ?_⟩, ?_⟩
      ·simpa [toE] using hown2
      ·rcases hat2' with e | e
       ·exact ⟨kb, e, hk1, hk2⟩
       ·exact ⟨_, e, by simp; omega, by simp; omega⟩
      ·intro p hp
       rcases List.mem_append.1 hp with hp | hp
       ·exact hnb p hp
       ·simp at hp; subst hp; exact hz
      ·exact (bla hBW _).trans (below_app (v := .slice (some ⟨kb, 0, none⟩) done.length cap) hg2' (fun k hk => by cases hk; exact hkbl) (by have := hBW.size; simp; omega))
      ·rw [hRA.left hg2' (by simp; exact Ne.symm hk2) (by simp; exact Ne.symm hk1), hlA, hlW]
       exact hlt
end Eg
end Sm
end Go.Proofs.Ytlkcneneagifoaa
end
section
namespace Go.Proofs.Ytlkcneneagifoaa
open Go.RowKit Go.Sort
set_option linter.unusedVariables false
set_option linter.unusedSimpArgs false
namespace Sm
namespace Eg
open Ev
abbrev ety : K.Ty := .C (.I .i64) (.C (.I .i64) (.I .i64))
def RG (r : Int) : Rg := ⟨ofW, ringAdd r, narrowW⟩
def inB (n : Int) : Bool := decide (-9223372036854775808 ≤ n) && decide (n ≤ 9223372036854775807)
theorem inB_in {n : Int} (h : inB n = true) : In64 n := by simpa [inB, In64] using h
def okB (x : Sl (Int × Int × Int)) : Bool := decide (x.l.length ≤ 90000) && (x.l.all fun e => inB e.1 && (inB e.2.1 && inB e.2.2)) && (decide (x.sz = 3) || x.l.isEmpty) && (x.nn || x.l.isEmpty)
noncomputable def fn (a : Int × Sl (Int × Int × Int)) : Option (Sl (Int × Int × Int) × Int) :=
 if isRing a.1 = true then if okB a.2 = true then if risL a.2.l = true then some (⟨a.2.nn, 3, a.2.l⟩, 0) else
  let o := sumR (RG a.1) a.2.l
  some (if o.2 = 0 then (⟨true, 3, o.1⟩, 0) else (⟨false, 0, []⟩, o.2)) else none else some (⟨false, 0, []⟩, 8)
theorem rd_of {w : World} {F : Nat → Prop} {x : Sl (Int × Int × Int)} {y : Value} (hx : okB x = true) (h : RepT w F (Sl.t ety.row x) y) : ∃ a c, y = .slice a x.l.length c ∧ RdE w a x.l ∧ (a = none → c = 0 ∧ x.l.length = 0) ∧ x.l.length ≤ c ∧ x.nn = a.isSome := by
 obtain ⟨nn, sz, l⟩ := x
 simp only [okB, Bool.and_eq_true, Bool.or_eq_true, decide_eq_true_eq, List.isEmpty_iff] at hx
 unfold Sl.t at h
 cases h with
 | s _ _ _ a c ys hn hc h0 hl hm hr =>
  rw [List.length_map] at hc ⊢
  refine ⟨a, c, rfl, ?_, fun ha => ⟨h0 ha, by have := h0 ha; omega⟩, hc, hn⟩
  intro i hi
  have hsz : sz = 3 := by
   rcases hx.1.2 with h | h
   ·exact h
   ·rw [h] at hi; simp at hi
  subst hsz
  have hil : (l.map ety.row)[i]? = some (ety.row l[i]) := by simp [hi]
  have he : el l i = l[i] := by simp [el, List.getD_eq_getElem?_getD, hi]
  rw [he]
  have g : ∀ j v, (ety.row l[i])[j]? = some (.v v) → ∃ b, a = some b ∧ b.block < w.heap.size ∧ w.cell? (b.add (i * 3 + j)) = some v := by
   intro j v hj
   obtain ⟨b, h1, h2, _, h3⟩ := hm i _ j _ hil hj
   refine ⟨b, h1, h2, ?_⟩
   have := hr i _ j _ hil hj
   rw [h3]
   generalize ys i j = y at this
   cases this with | v x hx => rfl
  obtain ⟨b, e0, h1, c0⟩ := g 0 (.int .i64 l[i].1) rfl
  obtain ⟨b1, e1, _, c1⟩ := g 1 (.int .i64 l[i].2.1) rfl
  obtain ⟨b2, e2, _, c2⟩ := g 2 (.int .i64 l[i].2.2) rfl
  rw [e0] at e1 e2
  cases e1; cases e2
  refine ⟨b, e0, h1, by simpa using c0, ?_, ?_⟩
  ·rw [add_succ] at c1; exact c1
  ·rw [add_succ, add_succ] at c2; exact c2
theorem rep_of {base : Nat} {w : World} {F : Nat → Prop} {a : Option Addr} {c : Nat} {l : List (Int × Int × Int)} (h : Out base w a c l) (hF : ∀ b, F b → b < base) (hne : l ≠ [] ∨ a ≠ none) : RepT w F (Sl.t ety.row ⟨true, 3, l⟩) (.slice a l.length c) := by
 obtain ⟨h1, h2, h3, h4⟩ := h
 obtain ⟨b0, rfl⟩ : ∃ b0, a = some b0 := by
  cases a with
  | some b => exact ⟨b, rfl⟩
  | none => exact absurd (List.eq_nil_of_length_eq_zero (h2 rfl).2) (hne.resolve_right (by simp))
 have key := RepT.s (w := w) (F := F) true 3 (l.map ety.row) (some b0) c (fun i j => match j with
  | 0 => .int .i64 (el l i).1
  | 1 => .int .i64 (el l i).2.1
  | _ => .int .i64 (el l i).2.2) rfl (by simpa using h3) (by simp) (fun i e hi => by
   rw [List.getElem?_map, Option.map_eq_some_iff] at hi
   obtain ⟨x, _, rfl⟩ := hi
   rfl) ?_ ?_
 ·rw [List.length_map] at key; exact key
 ·intro i e j t hi hj
  rw [List.getElem?_map, Option.map_eq_some_iff] at hi
  obtain ⟨x, hx, rfl⟩ := hi
  have hil : i < l.length := (List.getElem?_eq_some_iff.1 hx).1
  obtain ⟨b, e0, g1, c0, c1, c2⟩ := h1 i hil
  cases e0
  refine ⟨b0, rfl, g1, fun hf => by have := h4 b0 rfl; have := hF _ hf; omega, ?_⟩
  have hj3 : j < 3 := (List.getElem?_eq_some_iff.1 hj).1
  rcases (show j = 0 ∨ j = 1 ∨ j = 2 by omega) with rfl | rfl | rfl
  ·simpa using c0
  ·rw [add_succ]; exact c1
  ·rw [add_succ, add_succ]; exact c2
 ·intro i e j t hi hj
  rw [List.getElem?_map, Option.map_eq_some_iff] at hi
  obtain ⟨x, hx, rfl⟩ := hi
  have hx2 : el l i = x := by simp [el, List.getD_eq_getElem?_getD, hx]
  have hj3 : j < 3 := (List.getElem?_eq_some_iff.1 hj).1
  rcases (show j = 0 ∨ j = 1 ∨ j = 2 by omega) with rfl | rfl | rfl
  ·cases hj; simp only [hx2]; exact .v _ rfl
  ·cases hj; simp only [hx2]; exact .v _ rfl
  ·cases hj; simp only [hx2]; exact .v _ rfl
theorem ins_ne (R : Rg) (e : Ed) : ∀ S, ins R S e ≠ []
 | [] => by simp [ins]
 | p :: S => by
  unfold ins
  split
  ·simp
  ·split <;> simp
theorem can_ne {R : Rg} {l : List Ed} (h : l ≠ []) : canS R l ≠ [] := by
 obtain ⟨m, e, rfl⟩ : ∃ m e, l = m ++ [e] := ⟨l.dropLast, l.getLast h, (List.dropLast_concat_getLast h).symm⟩
 rw [canS_snoc]
 exact ins_ne R e _
theorem sum_ne {R : Rg} {l : List Ed} (h : l ≠ []) (h0 : (sumR R l).2 = 0) : (sumR R l).1 ≠ [] := by
 unfold sumR at h0 ⊢
 split at h0
 ·rename_i hc
  rw [if_pos hc]
  simpa using can_ne h
 ·simp at h0
theorem sum_e {R : Rg} {l : List Ed} (h0 : (sumR R l).2 ≠ 0) : sumR R l = ([], 12) := by
 unfold sumR at h0 ⊢
 split at h0
 ·exact absurd rfl h0
 ·rename_i hc; rw [if_neg hc]
set_option maxRecDepth 100000 in
theorem of_calls (x : Int) (hx : In64 x) (W : World) (hL : LD W.heap.size W) : Calls Try.prog 96 #[.int .i64 x] W fun e w' => e = .returned (WV (ofW x)) ∧ Below W.heap.size W w' := by
 have h := K.wide_Of_okB 0 x (ofW x) (wide_Of_w hx)
 exact calls_plain (RunsP.pure K.E1_okB h) rfl rfl W hL
set_option maxRecDepth 100000 in
theorem add_calls (r : Int) (x y : V) (W : World) (hL : LD W.heap.size W) : Calls Try.prog 95 #[.int .i64 r, WV x, WV y] W fun e w' => e = .returned (WV (ringAdd r x y)) ∧ Below W.heap.size W w' := by
 have h := K.ring_Add_okB 0 (r, x, y) (ringAdd r x y) (ring_Add_w r x y)
 exact calls_plain (RunsP.pure K.E1_okB h) rfl rfl W hL
set_option maxRecDepth 100000 in
theorem nar_calls (r : Int) (x : V) (W : World) (hL : LD W.heap.size W) : Calls Try.prog 97 #[.int .i64 r, WV x] W fun e w' => e = .returned (.tuple #[.int .i64 (narrowW x).1, .bool (narrowW x).2]) ∧ Below W.heap.size W w' := by
 have h := K.ring_Narrow_okB 0 (r, x) (narrowW x) (ring_Narrow_w r x)
 exact calls_plain (RunsP.pure K.E1_okB h) rfl rfl W hL
theorem LD.below {w W : World} (hL : LD w.heap.size w) (hb : Below w.heap.size w W) : LD W.heap.size W := (hL.keep (fun _ hs => hb.block 0 hs) hb.size).up hb.size
theorem RepT.below {w W : World} {F F' : Nat → Prop} {t : T} {y : Value} (h : RepT w F t y) (hb : Below w.heap.size w W) (hF : ∀ b, F' b → F b) : RepT W F' t y := h.mono hb.size fun b hlt _ hn => ⟨hb.block b hlt, fun hf => hn (hF b hf)⟩
theorem ord_calls {w : World} {F : Nat → Prop} {x : Sl (Int × Int × Int)} {y : Value} (hr : RepT w F (Sl.t ety.row x) y) (hL : LD w.heap.size w) {b : Bool} (hb : edges_Rises x = some b) (W : World) (hW : Below w.heap.size w W) : Calls Try.prog 111 #[y] W fun e w' => e = .returned (.bool b) ∧ Below W.heap.size W w' := by
 have h := RunsP.pure K.E1_okB (K.edges_Rises_okB 0 x b hb)
 refine (h W (fun _ => False) [y] (LD.below hL hW) (fun _ h => h.elim) ⟨rfl, fun i t hi => ?_⟩).mono fun e w' ⟨y', e1, e2, _, e3⟩ => ⟨?_, e3⟩
 ·have h0 : i = 0 := by
   have h1 : i < 1 := (List.getElem?_eq_some_iff.1 hi).1
   omega
  subst h0
  cases hi
  exact ⟨y, rfl, .one _ _ (RepT.below hr hW fun _ h => h.elim)⟩
 ·rw [e1, PR_rep (x := .bool b) rfl w' _ e2]
theorem eqNil_t (w : World) : (binOp .eql 48 (.slice none 0 0) (.slice none 0 0)).run Try.prog w = .ok (.bool true) w := by kernel_rfl
theorem eqNil_f (w : World) (b : Addr) (n c : Nat) : (binOp .eql 48 (.slice (some b) n c) (.slice none 0 0)).run Try.prog w = .ok (.bool false) w := by kernel_rfl
set_option maxRecDepth 100000 in
set_option maxHeartbeats 1000000 in
theorem cloneE_any (a : Option Addr) (l : List Ed) (c : Nat) (w : World) (hr : RdE w a l) (hz : a = none → c = 0 ∧ l.length = 0) (hl : l.length ≤ 90000) : Calls Try.prog 112 #[.slice a l.length c] w fun e w' => ∃ v, e = .returned v ∧ w'.ownsRow w.heap.size 55 3 v l.length (cellsE l) ∧ Below w.heap.size w w' ∧ (a = none → v = .slice none 0 0) ∧ (a ≠ none → ∃ k, v.ownBlock = some k) := by
 by_cases ha : a = none
 ·obtain ⟨rfl, h0⟩ := hz ha
  subst ha
  obtain rfl : l = [] := List.eq_nil_of_length_eq_zero h0
  have hq := eqNil_t w
  go_enter Try.func112, Try.ntmps112
  go_wp2
  go_ret
  refine ⟨_, rfl, World.ownsRow_nil _ _ _ _, (by repeat (first | with_reducible refine blg ?_ _ _ | with_reducible refine bla ?_ _ | with_reducible exact Below.refl _ _)), ?_⟩
  first | exact ⟨fun _ => rfl, fun h => absurd rfl h⟩ | rfl | simp
 ·obtain ⟨b, rfl⟩ := Option.ne_none_iff_exists'.1 ha
  obtain ⟨n, hn⟩ : ∃ n, n = l.length := ⟨_, rfl⟩
  rw [← hn] at hl hz ⊢
  have HN := Lib.hid hn
  clear hn ha
  have hq := eqNil_f w b n c
  go_enter Try.func112, Try.ntmps112
  have h0 : (w.alloc (.cells #[] 55)).ownsRow w.heap.size 55 3 (.slice (some ⟨w.heap.size, 0, none⟩) 0 0) 0 (cellsE []) := by
   exact World.ownsRow_lit w #[] 0 (Nat.le_refl _) (by unfold maxLen; omega) rfl
  go_wp2_with (refine wpList_append_rdE rfl _ _ rfl w.heap.size _ 0 [] rfl h0 (some b) n c l rfl HN.out (hr.below (bl1 _ _)) (by simp) (by omega) (by simp) ?_; intro v' w' hown hg hat)
  go_ret
  refine ⟨_, rfl, by simpa using hown, (bl1 w _).trans (below_app (v := .slice (some ⟨w.heap.size, 0, none⟩) 0 0) hg (fun k hk => by cases hk; exact Nat.le_refl _) (by simp)), ?_⟩
  have hk := hat.elim (fun h => (⟨_, h⟩ : ∃ k, v'.ownBlock = some k)) fun h => ⟨_, h⟩
  first | exact ⟨fun h => (by cases h), fun _ => hk⟩ | exact hk | simpa using hk
set_option maxRecDepth 100000 in
theorem bad (r : Int) (a : Option Addr) (n c : Nat) (w : World) (hI : ∀ W, Below w.heap.size w W → Calls Try.prog 62 #[.int .i64 r] W fun e w' => e = .returned (.bool false) ∧ Below W.heap.size W w') :
  Calls Try.prog 93 #[.int .i64 r, .slice a n c] w fun e w' => e = .returned (.tuple #[.slice none 0 0, .int .i64 8]) ∧ Below w.heap.size w w' := by
 have HI := Lib.hid hI
 clear hI
 go_enter Try.func93, Try.ntmps93
 go_wp2_with fail
 refine (HI.out w (Below.refl _ _)).mono ?_
 rintro x w1 ⟨rfl, hb1⟩
 go_wp2
 go_ret2
 exact ⟨rfl, hb1⟩
set_option maxRecDepth 100000 in
set_option maxHeartbeats 1000000 in
theorem rising (r : Int) (a : Option Addr) (l : List Ed) (c : Nat) (w : World) (hIs : ∀ W, Below w.heap.size w W → Calls Try.prog 62 #[.int .i64 r] W fun e w' => e = .returned (.bool true) ∧ Below W.heap.size W w')
  (hO : ∀ W, Below w.heap.size w W → Calls Try.prog 111 #[.slice a l.length c] W fun e w' => e = .returned (.bool true) ∧ Below W.heap.size W w') (hr : RdE w a l) (hz : a = none → c = 0 ∧ l.length = 0) (hl : l.length ≤ 90000) :
  Calls Try.prog 93 #[.int .i64 r, .slice a l.length c] w fun e w' => ∃ v, e = .returned (.tuple #[v, .int .i64 0]) ∧ w'.ownsRow w.heap.size 55 3 v l.length (cellsE l) ∧ Below w.heap.size w w' ∧ (a = none → v = .slice none 0 0) ∧ (a ≠ none → ∃ k, v.ownBlock = some k) := by
 have HI := Lib.hid hIs
 have HO := Lib.hid hO
 clear hIs hO
 go_enter Try.func93, Try.ntmps93
 go_wp2_with fail
 refine (HI.out w (Below.refl _ _)).mono ?_
 rintro x w1 ⟨rfl, hb1⟩
 go_wp2_with fail
 refine (HO.out w1 hb1).mono ?_
 rintro x w2 ⟨rfl, hb2⟩
 have hbw := hb1.trans (hb2.mono hb1.size)
 go_wp2_with fail
 refine (cloneE_any a l c w2 (hr.below hbw) hz hl).mono ?_
 rintro x w3 ⟨v, rfl, hown, hb3, hv1, hv2⟩
 go_wp2
 go_ret2
 exact ⟨v, rfl, row_mono hown hbw.size, hbw.trans (hb3.mono hbw.size), hv1, hv2⟩
theorem is_calls (r : Int) (W : World) (hL : LD W.heap.size W) : Calls Try.prog 62 #[.int .i64 r] W fun e w' => e = .returned (.bool (isRing r)) ∧ Below W.heap.size W w' := by
 have h := K.ring_Is_okB 0 r (isRing r) (ring_Is_w r)
 exact calls_plain (RunsP.pure K.E1_okB h) rfl rfl W hL
theorem nil_rep (w : World) (F : Nat → Prop) : RepT w F (Sl.t ety.row ⟨false, 0, []⟩) (.slice none 0 0) := RepT.s (w := w) (F := F) false 0 [] none 0 (fun _ _ => .nilFunc) rfl (Nat.le_refl _) (fun _ => rfl) (fun i e h => by simp at h) (fun i e j t h => by simp at h) (fun i e j t h => by simp at h)
theorem two {w : World} {F : Nat → Prop} {t : T} {y : Value} {e : Int} (h : RepT w F t y) : RepRes w F [.one t, .one (iT .i64 e)] (.tuple #[y, .int .i64 e]) := by
 refine ⟨[y, .int .i64 e], rfl, rfl, fun i t' hi => ?_⟩
 match i, hi with
 | 0, hi => cases hi; exact ⟨y, rfl, .one _ _ h⟩
 | 1, hi => cases hi; exact ⟨_, rfl, .one _ _ (.v _ rfl)⟩
 | i + 2, hi => simp at hi
abbrev ins : List K.TyD := [(false, .I .i64), (false, .S ety)]
abbrev outs : List K.TyD := [(false, .S ety), (false, .I .i64)]
theorem nil_rep0 (w : World) (F : Nat → Prop) : RepT w F (Sl.t ety.row ⟨false, 3, []⟩) (.slice none 0 0) := RepT.s (w := w) (F := F) false 3 [] none 0 (fun _ _ => .nilFunc) rfl (Nat.le_refl _) (fun _ => rfl) (fun i e h => by simp at h) (fun i e j t h => by simp at h) (fun i e j t h => by simp at h)
theorem pure_ok (a : K.vals ins) (o : K.vals outs) (h : fn a = some o) : PureOk Try.prog 93 (K.tdsOf ins a) .fresh (K.tdsOf outs o) := by
 obtain ⟨r, x⟩ := a
 change Int at r
 change Sl (Int × Int × Int) at x
 unfold fn at h
 split at h
 rotate_left
 ·rename_i hring
  simp only at hring
  cases h
  intro w F ys hL hF hr
  obtain ⟨hlen, hi⟩ := hr
  match ys, hlen with
  | [y0, y1], _ =>
   obtain ⟨y, e1, e2⟩ := hi 0 _ rfl
   simp only [List.getElem?_cons_zero, Option.some.injEq] at e1
   subst e1
   have ey : y0 = .int .i64 r := by
    cases e2 with
    | one t y h => cases h with | v x hx => rfl
   subst ey
   obtain ⟨y, e1, e2⟩ := hi 1 _ rfl
   simp only [List.getElem?_cons_succ, List.getElem?_cons_zero, Option.some.injEq] at e1
   subst e1
   have e3 : RepT w F (Sl.t ety.row x) y1 := by cases e2 with | one t y h => exact h
   obtain ⟨ad, n, c, rfl⟩ : ∃ a n c, y1 = .slice a n c := by
    unfold Sl.t at e3
    cases e3 with
    | s _ _ _ a c ys hn => exact ⟨_, _, _, rfl⟩
   have hf : isRing r = false := by simpa using hring
   refine (bad r ad n c w (fun W hW => by have := is_calls r W (LD.below hL hW); rw [hf] at this; exact this)).mono fun e w' ⟨he, hbl⟩ => ⟨_, he, two (nil_rep _ _), fun hk => (by cases hk), hbl⟩
 rename_i hring
 simp only at hring
 split at h
 ·rename_i hx
  simp only at hx
  simp only at h
  obtain ⟨b, hb0⟩ : ∃ b, b = risL x.l := ⟨_, rfl⟩
  rw [← hb0] at h
  have hb : edges_Rises x = some b := by
   have hx2 := hx
   simp only [okB, Bool.and_eq_true, Bool.or_eq_true, decide_eq_true_eq, List.isEmpty_iff, List.all_eq_true] at hx2
   rw [hb0]
   exact edges_Rises_w hx2.1.2.symm (by omega)
  intro w F ys hL hF hr
  obtain ⟨hlen, hi⟩ := hr
  match ys, hlen with
  | [y0, y1], _ =>
   obtain ⟨y, e1, e2⟩ := hi 0 _ rfl
   simp only [List.getElem?_cons_zero, Option.some.injEq] at e1
   subst e1
   have ey : y0 = .int .i64 r := by
    cases e2 with
    | one t y h => cases h with | v x hx => rfl
   subst ey
   obtain ⟨y, e1, e2⟩ := hi 1 _ rfl
   simp only [List.getElem?_cons_succ, List.getElem?_cons_zero, Option.some.injEq] at e1
   subst e1
   have e3 : RepT w F (Sl.t ety.row x) y1 := by cases e2 with | one t y h => exact h
   clear e2 hi
   obtain ⟨ad, c, rfl, h1, h2, h3, hnn⟩ := rd_of hx e3
   have hx2 := hx
   simp only [okB, Bool.and_eq_true, Bool.or_eq_true, decide_eq_true_eq, List.isEmpty_iff, List.all_eq_true] at hx2
   have hO := ord_calls e3 hL hb
   have hI : ∀ W, Below w.heap.size w W → Calls Try.prog 62 #[.int .i64 r] W fun e w' => e = .returned (.bool true) ∧ Below W.heap.size W w' := fun W hW => by have := is_calls r W (LD.below hL hW); rw [hring] at this; exact this
   cases b with
   | true =>
    rw [if_pos rfl] at h
    cases h
    refine (rising r ad x.l c w hI hO h1 h2 hx2.1.1.1).mono fun e w' ⟨v, he, hown, hbl, hv1, hv2⟩ => ⟨_, he, ?_, fun hk => (by cases hk), hbl⟩
    cases ad with
    | none =>
     rw [hv1 rfl]
     have hl0 : x.l = [] := List.eq_nil_of_length_eq_zero (h2 rfl).2
     rw [hnn, hl0]
     exact two (nil_rep0 _ _)
    | some b =>
     obtain ⟨k, hk⟩ := hv2 (by simp)
     obtain ⟨_, a', c', rfl, hle, hrd, hz'⟩ := row_rdE hown
     rw [hnn]
     exact two (rep_of (base := w.heap.size) ⟨hrd, hz', hle, fun b hb => (hown.lt b.block (by rw [hb]; rfl)).1⟩ (fun b hb => hb.1) (.inr (by intro hn; rw [hn] at hk; cases hk)))
   | false =>
    rw [if_neg (by simp)] at h
    have hw := walked r (RG r) ad x.l c w hI hO (fun z hz W hW => of_calls z hz W (LD.below hL hW)) (fun p q W hW => add_calls r p q W (LD.below hL hW)) (fun p W hW => nar_calls r p W (LD.below hL hW)) h1 (fun e he => by have := hx2.1.1.2 e he; exact ⟨inB_in this.1, inB_in this.2.1, inB_in this.2.2⟩) hx2.1.1.1
    refine hw.mono fun e w' ⟨a', c', he, ho, hbl, hnil⟩ => ⟨_, he, ?_, fun hk => (by cases hk), hbl⟩
    have hne : x.l ≠ [] := by
     intro hn
     rw [hn] at hb0
     cases hb0
    by_cases h0 : (sumR (RG r) x.l).2 = 0
    ·simp only [if_pos h0] at h
     cases h
     rw [h0]
     exact two (rep_of ho (fun b hb => hb.1) (.inl (sum_ne hne h0)))
    ·simp only [if_neg h0] at h
     cases h
     have he := sum_e h0
     rw [he] at ho ⊢
     obtain ⟨g1, g2, g3⟩ := ho
     obtain rfl := hnil h0
     obtain ⟨rfl, _⟩ := g2 rfl
     exact two (nil_rep _ _)
 ·simp at h
theorem enters : Ev.Enters Try.prog 93 := ⟨_, _, Try.func93, by kernel_rfl, by unfold Try.f93; rfl⟩
end Eg
end Sm
end Go.Proofs.Ytlkcneneagifoaa
end
section
namespace Go.Proofs.Ytlkcneneagifoaa
namespace Ev
namespace K
open Go Go.RowKit
set_option linter.unusedVariables false
set_option linter.unusedSimpArgs false
set_option maxRecDepth 100000
set_option maxHeartbeats 1000000
noncomputable def preAx : Ax := (addAx (addAx (fun _ => none) 64 (handF Sm.Tp.ins .any Sm.Tp.outs Sm.Tp.fn)) 93 (handF Sm.Eg.ins .fresh Sm.Eg.outs Sm.Eg.fn))
theorem preAx_ok : AxOk Try.prog preAx := (axOk_add (axOk_add (axOk_none _) (hand_ax Sm.Tp.enters Sm.Tp.pure_ok)) (hand_ax Sm.Eg.enters Sm.Eg.pure_ok))
noncomputable def inlAx : Ax := (addAx (addAx (addAx (addAx (addAx (addAx (addAx (addAx (addAx (addAx (addAx (addAx (addAx (addAx (addAx (addAx (addAx (addAx (addAx (addAx (addAx (addAx (addAx (addAx (addAx (addAx (addAx (addAx (addAx (addAx (addAx (addAx (addAx (addAx (addAx (addAx (addAx (addAx (addAx (addAx (addAx preAx 75 inlF) 76 inlF) 81 inlF) 84 inlF) 88 inlF) 91 inlF) 92 inlF) 98 inlF) 106 inlF) 107 inlF) 109 inlF) 110 inlF) 112 inlF) 113 inlF) 119 inlF) 127 inlF) 128 inlF) 130 inlF) 131 inlF) 132 inlF) 133 inlF) 134 inlF) 135 inlF) 136 inlF) 137 inlF) 140 inlF) 141 inlF) 142 inlF) 143 inlF) 144 inlF) 145 inlF) 146 inlF) 147 inlF) 148 inlF) 151 inlF) 152 inlF) 153 inlF) 154 inlF) 155 inlF) 156 inlF) 157 inlF)
theorem inlAx_ok : AxOk Try.prog inlAx := (axOk_add (axOk_add (axOk_add (axOk_add (axOk_add (axOk_add (axOk_add (axOk_add (axOk_add (axOk_add (axOk_add (axOk_add (axOk_add (axOk_add (axOk_add (axOk_add (axOk_add (axOk_add (axOk_add (axOk_add (axOk_add (axOk_add (axOk_add (axOk_add (axOk_add (axOk_add (axOk_add (axOk_add (axOk_add (axOk_add (axOk_add (axOk_add (axOk_add (axOk_add (axOk_add (axOk_add (axOk_add (axOk_add (axOk_add (axOk_add (axOk_add preAx_ok fun vs kind rs h => by simp [inlF] at h) fun vs kind rs h => by simp [inlF] at h) fun vs kind rs h => by simp [inlF] at h) fun vs kind rs h => by simp [inlF] at h) fun vs kind rs h => by simp [inlF] at h) fun vs kind rs h => by simp [inlF] at h) fun vs kind rs h => by simp [inlF] at h) fun vs kind rs h => by simp [inlF] at h) fun vs kind rs h => by simp [inlF] at h) fun vs kind rs h => by simp [inlF] at h) fun vs kind rs h => by simp [inlF] at h) fun vs kind rs h => by simp [inlF] at h) fun vs kind rs h => by simp [inlF] at h) fun vs kind rs h => by simp [inlF] at h) fun vs kind rs h => by simp [inlF] at h) fun vs kind rs h => by simp [inlF] at h) fun vs kind rs h => by simp [inlF] at h) fun vs kind rs h => by simp [inlF] at h) fun vs kind rs h => by simp [inlF] at h) fun vs kind rs h => by simp [inlF] at h) fun vs kind rs h => by simp [inlF] at h) fun vs kind rs h => by simp [inlF] at h) fun vs kind rs h => by simp [inlF] at h) fun vs kind rs h => by simp [inlF] at h) fun vs kind rs h => by simp [inlF] at h) fun vs kind rs h => by simp [inlF] at h) fun vs kind rs h => by simp [inlF] at h) fun vs kind rs h => by simp [inlF] at h) fun vs kind rs h => by simp [inlF] at h) fun vs kind rs h => by simp [inlF] at h) fun vs kind rs h => by simp [inlF] at h) fun vs kind rs h => by simp [inlF] at h) fun vs kind rs h => by simp [inlF] at h) fun vs kind rs h => by simp [inlF] at h) fun vs kind rs h => by simp [inlF] at h) fun vs kind rs h => by simp [inlF] at h) fun vs kind rs h => by simp [inlF] at h) fun vs kind rs h => by simp [inlF] at h) fun vs kind rs h => by simp [inlF] at h) fun vs kind rs h => by simp [inlF] at h) fun vs kind rs h => by simp [inlF] at h)
noncomputable def E0 : Env := envOf Try.prog inlAx
theorem E0_ok : E0.Ok := envOf_ok mixed0 names0 inlAx_ok
def liveF : List TD → Option (Kind × List TD)
 | [] => some (.fresh, [.one (.v (.bool true))])
 | _ => none
theorem live_ax {k : FuncId} (h : (callers E0 300 60).1 k [] = some (.fresh, [.one (.v (.bool true))])) : ∀ vs kind rs, liveF vs = some (kind, rs) → PureOk Try.prog k vs kind rs ∧ Ev.Enters Try.prog k := fun vs kind rs hf => by
 unfold liveF at hf
 split at hf
 ·simp only [Option.some.injEq, Prod.mk.injEq] at hf
  obtain ⟨rfl, rfl⟩ := hf
  exact (callers_ok E0_ok 300 60).1 _ _ _ _ h
 ·simp at hf
theorem live17 : (callers E0 300 60).1 17 [] = some (.fresh, [.one (.v (.bool true))]) := by kernel_rfl
noncomputable def E1 : Env := envOf Try.prog (addAx inlAx 17 liveF)
theorem E1_ok : E1.Ok := envOf_ok mixed0 names0 (axOk_add inlAx_ok (live_ax live17))
noncomputable def edges_Combine : vals Sm.Eg.ins → Option (vals Sm.Eg.outs) := Sm.Eg.fn
noncomputable def edges_Combine_E : Entry := ⟨93, Sm.Eg.ins, .data true Sm.Eg.outs, edges_Combine, 1⟩
theorem edges_Combine_ok : EntryOk E1 edges_Combine_E := hand_fresh rfl
theorem TT_ok : AllT E1 TT := ⟨tz1, ⟨tz2, ⟨tz3, ⟨tz4, ⟨tz5, ⟨tz6, ⟨tz7, ⟨tz8, ⟨tz12, ⟨tz15, ⟨tz16, ⟨tz17, ⟨tz18, ⟨tz19, ⟨tz21, ⟨tz22, ⟨tz23, ⟨tz24, ⟨tz25, ⟨tz26, ⟨tz27, ⟨tz28, ⟨tz29, ⟨tz30, ⟨tz32, ⟨tz33, ⟨tz34, ⟨tz35, ⟨tz37, ⟨tz38, ⟨tz39, ⟨tz40, ⟨tz41, ⟨tz42, ⟨tz43, ⟨tz44, ⟨tz45, ⟨tz46, ⟨tz47, ⟨tz48, ⟨tz49, ⟨tz50, ⟨tz51, ⟨tz52, ⟨tz53, ⟨tz54, ⟨tz55, ⟨tz56, ⟨tz57, ⟨tz58, ⟨tz59, ⟨tz60, ⟨tz61, ⟨tz62, ⟨tz63, ⟨tz64, ⟨tz65, ⟨tz66, ⟨tz67, ⟨tz68, ⟨tz69, ⟨tz70, ⟨tz71, ⟨tz72, ⟨tz73, ⟨tz74, ⟨tz75, ⟨tz76, ⟨tz77, ⟨tz78, ⟨tz79, ⟨tz80, ⟨tz81, ⟨tz83, ⟨tz84, ⟨tz86, ⟨tz87, ⟨tz88, ⟨tz90, ⟨tz92, ⟨tz93, ⟨tz94, ⟨tz95, ⟨tz96, ⟨tz97, ⟨tz98, ⟨tz99, ⟨tz101, ⟨tz102, ⟨tz103, ⟨tz104, ⟨tz105, ⟨tz106, ⟨tz107, ⟨tz108, ⟨tz109, ⟨tz110, ⟨tz111, ⟨tz113, ⟨tz114, ⟨tz115, ⟨tz117, ⟨tz118, ⟨tz119, ⟨tz120, ⟨tz121, ⟨tz122, ⟨tz123, ⟨tz124, ⟨tz125, ⟨tz126, ⟨tz127, ⟨tz128, ⟨tz129, ⟨tz130, ⟨tz131, ⟨tz132, ⟨tz133, ⟨tz134, ⟨tz135, ⟨tz136, ⟨tz137, ⟨tz138, ⟨tz139, ⟨tz140, ⟨tz141, ⟨tz143, ⟨tz144, ⟨tz145, ⟨tz146, ⟨tz147, ⟨tz148, ⟨tz149, ⟨tz150, ⟨tz151, ⟨tz152, ⟨tz153, ⟨tz154, ⟨tz155, ⟨tz156, ⟨tz157, ⟨tz158, ⟨tz159, ⟨tz160, ⟨tz161, ⟨tz162, ⟨tz163, ⟨tz164, ⟨tz165, ⟨tz166, ⟨tz169, ⟨tz170, ⟨tz171, ⟨tz172, ⟨tz173, ⟨tz174, ⟨tz175, ⟨tz176, ⟨tz177, ⟨tz178, ⟨tz179, ⟨tz180, trivial⟩⟩⟩⟩⟩⟩⟩⟩⟩⟩⟩⟩⟩⟩⟩⟩⟩⟩⟩⟩⟩⟩⟩⟩⟩⟩⟩⟩⟩⟩⟩⟩⟩⟩⟩⟩⟩⟩⟩⟩⟩⟩⟩⟩⟩⟩⟩⟩⟩⟩⟩⟩⟩⟩⟩⟩⟩⟩⟩⟩⟩⟩⟩⟩⟩⟩⟩⟩⟩⟩⟩⟩⟩⟩⟩⟩⟩⟩⟩⟩⟩⟩⟩⟩⟩⟩⟩⟩⟩⟩⟩⟩⟩⟩⟩⟩⟩⟩⟩⟩⟩⟩⟩⟩⟩⟩⟩⟩⟩⟩⟩⟩⟩⟩⟩⟩⟩⟩⟩⟩⟩⟩⟩⟩⟩⟩⟩⟩⟩⟩⟩⟩⟩⟩⟩⟩⟩⟩⟩⟩⟩⟩⟩⟩⟩⟩⟩⟩⟩⟩⟩⟩⟩⟩⟩⟩⟩⟩⟩⟩⟩⟩
theorem EQS_ok : AllQ E1.P EQS := ⟨eqOk3 kqeql60 kqneq60, ⟨eqOk2 kqeql94 kqneq94, ⟨eqOk2 kqeql115 kqneq115, trivial⟩⟩⟩
theorem fn21 : E1.fn 21 = some fi21 := fn_of Try.func21 rfl
theorem fn23 : E1.fn 23 = some fi23 := fn_of Try.func23 rfl
theorem fn25 : E1.fn 25 = some fi25 := fn_of Try.func25 rfl
theorem fn26 : E1.fn 26 = some fi26 := fn_of Try.func26 rfl
theorem fn31 : E1.fn 31 = some fi31 := fn_of Try.func31 rfl
theorem fn35 : E1.fn 35 = some fi35 := fn_of Try.func35 rfl
theorem fn36 : E1.fn 36 = some fi36 := fn_of Try.func36 rfl
theorem fn43 : E1.fn 43 = some fi43 := fn_of Try.func43 rfl
theorem fn48 : E1.fn 48 = some fi48 := fn_of Try.func48 rfl
theorem fn50 : E1.fn 50 = some fi50 := fn_of Try.func50 rfl
theorem fn54 : E1.fn 54 = some fi54 := fn_of Try.func54 rfl
theorem fn58 : E1.fn 58 = some fi58 := fn_of Try.func58 rfl
theorem fn59 : E1.fn 59 = some fi59 := fn_of Try.func59 rfl
theorem fn60 : E1.fn 60 = some fi60 := fn_of Try.func60 rfl
theorem fn61 : E1.fn 61 = some fi61 := fn_of Try.func61 rfl
theorem fn63 : E1.fn 63 = some fi63 := fn_of Try.func63 rfl
theorem fn65 : E1.fn 65 = some fi65 := fn_of Try.func65 rfl
theorem fn70 : E1.fn 70 = some fi70 := fn_of Try.func70 rfl
theorem fn71 : E1.fn 71 = some fi71 := fn_of Try.func71 rfl
theorem fn73 : E1.fn 73 = some fi73 := fn_of Try.func73 rfl
theorem fn75 : E1.fn 75 = some fi75 := fn_of Try.func75 rfl
theorem fn76 : E1.fn 76 = some fi76 := fn_of Try.func76 rfl
theorem fn78 : E1.fn 78 = some fi78 := fn_of Try.func78 rfl
theorem fn79 : E1.fn 79 = some fi79 := fn_of Try.func79 rfl
theorem fn80 : E1.fn 80 = some fi80 := fn_of Try.func80 rfl
theorem fn82 : E1.fn 82 = some fi82 := fn_of Try.func82 rfl
theorem fn83 : E1.fn 83 = some fi83 := fn_of Try.func83 rfl
theorem fn85 : E1.fn 85 = some fi85 := fn_of Try.func85 rfl
theorem fn86 : E1.fn 86 = some fi86 := fn_of Try.func86 rfl
theorem fn87 : E1.fn 87 = some fi87 := fn_of Try.func87 rfl
theorem fn88 : E1.fn 88 = some fi88 := fn_of Try.func88 rfl
theorem fn89 : E1.fn 89 = some fi89 := fn_of Try.func89 rfl
theorem fn90 : E1.fn 90 = some fi90 := fn_of Try.func90 rfl
theorem fn91 : E1.fn 91 = some fi91 := fn_of Try.func91 rfl
theorem fn92 : E1.fn 92 = some fi92 := fn_of Try.func92 rfl
theorem fn106 : E1.fn 106 = some fi106 := fn_of Try.func106 rfl
theorem fn107 : E1.fn 107 = some fi107 := fn_of Try.func107 rfl
theorem fn108 : E1.fn 108 = some fi108 := fn_of Try.func108 rfl
theorem fn109 : E1.fn 109 = some fi109 := fn_of Try.func109 rfl
theorem fn127 : E1.fn 127 = some fi127 := fn_of Try.func127 rfl
end K
end Ev
end Go.Proofs.Ytlkcneneagifoaa
end
section
namespace Go.Proofs.Ytlkcneneagifoaa
namespace Ev
namespace K
open Go Go.RowKit
set_option linter.unusedVariables false
set_option linter.unusedSimpArgs false
set_option maxRecDepth 100000
set_option maxHeartbeats 1000000
def csr_size_A : AnnK := []
noncomputable def csr_size_G : KG := ⟨TT, EQS, [], []⟩
noncomputable def csr_size : vals [(false, .I .i64)] → Option (OutK.val (.data true [(false, .B)])) := funK csr_size_G csr_size_A fi63 63 0 [(false, .I .i64)] (.data true [(false, .B)])
noncomputable def csr_size_E : Entry := ⟨63, [(false, .I .i64)], .data true [(false, .B)], csr_size, 1⟩
def csr_build_A : AnnK := [(65, ⟨[⟨false, 3, 0, [6, 7, 16, 17], ⟨[(18, false, [.d true (.I .i64)])], [(7, [.d true (.I .i64), .d true (.I .i64), .o (.I .i64), .m (.I .i64), .m (.I .i64)])], []⟩, [(.exit 0, ⟨[], [(7, [.d true (.I .i64), .d true (.I .i64), .o (.I .i64), .m (.I .i64), .m (.I .i64)])], []⟩)]⟩], []⟩), (75, ⟨[⟨false, 1, 0, [0], ⟨[(2, false, [.d true (.I .i64)])], [], [(.sl 0 0, .I .i64)]⟩, [(.exit 0, ⟨[], [], [(.sl 0 0, .I .i64)]⟩)]⟩], [(3, ⟨[[], [], [], [], [], [], [], [], [], [], [], [.sl 0 0]], [(false, []), (false, []), (false, []), (false, []), (false, []), (false, []), (false, []), (false, []), (false, []), (false, []), (false, []), (false, [])]⟩)]⟩)]
noncomputable def csr_build_G : KG := ⟨TT, EQS, [], [(75, fi75)]⟩
noncomputable def csr_build : vals [(false, .I .i64), (false, .I .i64), yD3] → Option (OutK.val (.data true [yD1])) := funK csr_build_G csr_build_A fi65 65 6 [(false, .I .i64), (false, .I .i64), yD3] (.data true [yD1])
noncomputable def csr_build_E : Entry := ⟨65, [(false, .I .i64), (false, .I .i64), yD3], .data true [yD1], csr_build, 7⟩
def csr_rises_A : AnnK := [(73, ⟨[⟨false, 3, 0, [1, 8, 9], ⟨[(5, false, [.d true (.I .i64)]), (10, false, [.d true (.I .i64)])], [], []⟩, [(.exit 0, ⟨[], [], []⟩), (.ret, ⟨[(4, false, [.d true .B])], [], []⟩)]⟩], []⟩)]
noncomputable def csr_rises_G : KG := ⟨TT, EQS, [], []⟩
noncomputable def csr_rises : vals [(false, .S (.I .i64)), (false, .I .i64)] → Option (OutK.val (.data true [(false, .B)])) := funK csr_rises_G csr_rises_A fi73 73 0 [(false, .S (.I .i64)), (false, .I .i64)] (.data true [(false, .B)])
noncomputable def csr_rises_E : Entry := ⟨73, [(false, .S (.I .i64)), (false, .I .i64)], .data true [(false, .B)], csr_rises, 1⟩
def csr_Right_A : AnnK := [(21, ⟨[⟨false, 7, 0, [1, 3, 56], ⟨[(57, false, [.d true (.I .i64)])], [], []⟩, [(.exit 0, ⟨[], [], []⟩), (.ret, ⟨[(2, false, [.d true .B])], [], []⟩)]⟩], []⟩)]
noncomputable def csr_Right_G : KG := ⟨TT, EQS, [csr_size_E, csr_rises_E], []⟩
noncomputable def csr_Right : vals [yD1] → Option (OutK.val (.data true [(false, .B)])) := funK csr_Right_G csr_Right_A fi21 21 0 [yD1] (.data true [(false, .B)])
noncomputable def csr_Right_E : Entry := ⟨21, [yD1], .data true [(false, .B)], csr_Right, 2⟩
def csr_sure_A : AnnK := []
noncomputable def csr_sure_G : KG := ⟨TT, EQS, [csr_Right_E, csr_build_E], []⟩
noncomputable def csr_sure : vals [yD1] → Option (OutK.val (.data false [yD1])) := funK csr_sure_G csr_sure_A fi71 71 0 [yD1] (.data false [yD1])
noncomputable def csr_sure_E : Entry := ⟨71, [yD1], .data false [yD1], csr_sure, 8⟩
def csr_row_A : AnnK := []
noncomputable def csr_row_G : KG := ⟨TT, EQS, [], []⟩
noncomputable def csr_row : vals [yD1, (false, .I .i64)] → Option (OutK.val (.data false [(false, .S (.I .i64)), (false, .S (.I .i64))])) := funK csr_row_G csr_row_A fi70 70 0 [yD1, (false, .I .i64)] (.data false [(false, .S (.I .i64)), (false, .S (.I .i64))])
noncomputable def csr_row_E : Entry := ⟨70, [yD1, (false, .I .i64)], .data false [(false, .S (.I .i64)), (false, .S (.I .i64))], csr_row, 1⟩
def edges_vertex_A : AnnK := []
noncomputable def edges_vertex_G : KG := ⟨TT, EQS, [], []⟩
noncomputable def edges_vertex : vals [(false, .I .i64), (false, .I .i64)] → Option (OutK.val (.data true [(false, .B)])) := funK edges_vertex_G edges_vertex_A fi108 108 0 [(false, .I .i64), (false, .I .i64)] (.data true [(false, .B)])
noncomputable def edges_vertex_E : Entry := ⟨108, [(false, .I .i64), (false, .I .i64)], .data true [(false, .B)], edges_vertex, 1⟩
def edges_Right_A : AnnK := [(127, ⟨[⟨false, 2, 0, [0, 1, 7], ⟨[(8, false, [.d true (.I .i64)])], [], []⟩, [(.exit 0, ⟨[], [], []⟩), (.ret, ⟨[(4, false, [.d true (.I .i64)])], [], []⟩)]⟩], []⟩)]
noncomputable def edges_Right_G : KG := ⟨TT, EQS, [edges_vertex_E], [(106, fi106), (107, fi107), (109, fi109), (127, fi127)]⟩
noncomputable def edges_Right : vals [yD2] → Option (OutK.val (.data true [(false, .I .i64)])) := funK edges_Right_G edges_Right_A fi80 80 6 [yD2] (.data true [(false, .I .i64)])
noncomputable def edges_Right_E : Entry := ⟨80, [yD2], .data true [(false, .I .i64)], edges_Right, 8⟩
def edges_Canon_A : AnnK := []
noncomputable def edges_Canon_G : KG := ⟨TT, EQS, [edges_Combine_E], []⟩
noncomputable def edges_Canon : vals [yD2] → Option (OutK.val (.data true [yD2])) := funK edges_Canon_G edges_Canon_A fi61 61 0 [yD2] (.data true [yD2])
noncomputable def edges_Canon_E : Entry := ⟨61, [yD2], .data true [yD2], edges_Canon, 2⟩
def csr_Turn_A : AnnK := [(31, ⟨[⟨false, 4, 0, [1, 2, 3, 32, 33], ⟨[(34, false, [.d true (.I .i64)])], [], [(.bx 3 2, .I .i64)]⟩, [(.exit 0, ⟨[], [], [(.bx 3 2, .I .i64)]⟩)]⟩, ⟨false, 11, 0, [1, 2, 3, 6, 54], ⟨[(55, false, [.d true (.I .i64)])], [], [(.bx 3 3, .I .i64), (.bx 3 4, .I .i64), (.sl 6 0, .I .i64)]⟩, [(.exit 2, ⟨[], [], [(.bx 3 3, .I .i64), (.bx 3 4, .I .i64)]⟩)]⟩, ⟨false, 15, 0, [1, 2, 3, 6, 7, 9, 54, 55, 64, 65], ⟨[(66, false, [.d true (.I .i64)])], [], [(.bx 3 3, .I .i64), (.bx 3 4, .I .i64), (.sl 6 0, .I .i64)]⟩, [(.exit 4, ⟨[], [], [(.bx 3 3, .I .i64), (.bx 3 4, .I .i64), (.sl 6 0, .I .i64)]⟩)]⟩], [(2, ⟨[[], [], [], [], [], [], [], [], [], [], [], [], [], [], [], [], [], [], []], [(false, []), (false, []), (false, []), (false, []), (false, []), (false, []), (false, []), (true, []), (false, []), (false, []), (false, []), (true, []), (false, []), (false, []), (false, []), (true, []), (false, []), (true, []), (false, [17])]⟩), (17, ⟨[[], [], [], [], [], [], [], [], [], [], [], [], [], [], [], [], [], [], [.bx 3 3], [], [.bx 3 4]], [(false, []), (false, []), (false, []), (false, []), (false, []), (false, []), (false, []), (false, []), (false, []), (false, []), (false, []), (false, []), (false, []), (false, []), (false, []), (false, []), (false, []), (false, []), (false, []), (false, []), (false, [])]⟩)]⟩), (75, ⟨[⟨false, 1, 0, [0], ⟨[(2, false, [.d true (.I .i64)])], [], [(.sl 0 0, .I .i64)]⟩, [(.exit 0, ⟨[], [], [(.sl 0 0, .I .i64)]⟩)]⟩], [(3, ⟨[[], [], [], [], [], [], [], [], [], [], [], [.sl 0 0]], [(false, []), (false, []), (false, []), (false, []), (false, []), (false, []), (false, []), (false, []), (false, []), (false, []), (false, []), (false, [])]⟩)]⟩)]
noncomputable def csr_Turn_G : KG := ⟨TT, EQS, [csr_row_E, csr_sure_E], [(75, fi75), (76, fi76)]⟩
noncomputable def csr_Turn : vals [yD1] → Option (OutK.val (.data true [yD1])) := funK csr_Turn_G csr_Turn_A fi31 31 6 [yD1] (.data true [yD1])
noncomputable def csr_Turn_E : Entry := ⟨31, [yD1], .data true [yD1], csr_Turn, 15⟩
def csr_Graph_A : AnnK := [(36, ⟨[⟨false, 6, 0, [1, 2, 20, 21], ⟨[(5, false, [.o (.C (.I .i64) (.C (.I .i64) (.I .i64)))]), (22, false, [.d true (.I .i64)])], [], []⟩, [(.exit 0, ⟨[(5, false, [.o (.C (.I .i64) (.C (.I .i64) (.I .i64)))])], [], []⟩)]⟩], []⟩)]
noncomputable def csr_Graph_G : KG := ⟨TT, EQS, [csr_Turn_E, edges_Canon_E, csr_build_E, edges_Right_E], []⟩
noncomputable def csr_Graph : vals [yD2] → Option (OutK.val (.data true [yD1, (false, .I .i64)])) := funK csr_Graph_G csr_Graph_A fi36 36 0 [yD2] (.data true [yD1, (false, .I .i64)])
noncomputable def csr_Graph_E : Entry := ⟨36, [yD2], .data true [yD1, (false, .I .i64)], csr_Graph, 16⟩
def csr_Count_A : AnnK := []
noncomputable def csr_Count_G : KG := ⟨TT, EQS, [csr_sure_E], []⟩
noncomputable def csr_Count : vals [yD1] → Option (OutK.val (.data true [(false, .I .i64)])) := funK csr_Count_G csr_Count_A fi23 23 0 [yD1] (.data true [(false, .I .i64)])
noncomputable def csr_Count_E : Entry := ⟨23, [yD1], .data true [(false, .I .i64)], csr_Count, 9⟩
def csr_Row_A : AnnK := [(26, ⟨[⟨false, 4, 0, [6, 7, 20, 21], ⟨[(22, false, [.d true (.I .i64)])], [], [(.sl 7 0, .C (.I .i64) (.I .i64))]⟩, [(.exit 0, ⟨[], [], [(.sl 7 0, .C (.I .i64) (.I .i64))]⟩)]⟩], []⟩)]
noncomputable def csr_Row_G : KG := ⟨TT, EQS, [csr_row_E, csr_sure_E], []⟩
noncomputable def csr_Row : vals [yD1, (false, .I .i64)] → Option (OutK.val (.own (.C (.I .i64) (.I .i64)))) := funK csr_Row_G csr_Row_A fi26 26 0 [yD1, (false, .I .i64)] (.own (.C (.I .i64) (.I .i64)))
noncomputable def csr_Row_E : Entry := ⟨26, [yD1, (false, .I .i64)], .own (.C (.I .i64) (.I .i64)), csr_Row, 9⟩
def slices_Equal_int_int_A : AnnK := [(78, ⟨[⟨false, 4, 0, [0, 1, 12], ⟨[(13, false, [.d true (.I .i64)])], [], []⟩, [(.exit 0, ⟨[], [], []⟩), (.ret, ⟨[(4, false, [.d true .B])], [], []⟩)]⟩], []⟩)]
noncomputable def slices_Equal_int_int_G : KG := ⟨TT, EQS, [], []⟩
noncomputable def slices_Equal_int_int : vals [(false, .S (.I .i64)), (false, .S (.I .i64))] → Option (OutK.val (.data true [(false, .B)])) := funK slices_Equal_int_int_G slices_Equal_int_int_A fi78 78 0 [(false, .S (.I .i64)), (false, .S (.I .i64))] (.data true [(false, .B)])
noncomputable def slices_Equal_int_int_E : Entry := ⟨78, [(false, .S (.I .i64)), (false, .S (.I .i64))], .data true [(false, .B)], slices_Equal_int_int, 1⟩
def slices_Equal_int64_int64_A : AnnK := [(79, ⟨[⟨false, 4, 0, [0, 1, 12], ⟨[(13, false, [.d true (.I .i64)])], [], []⟩, [(.exit 0, ⟨[], [], []⟩), (.ret, ⟨[(4, false, [.d true .B])], [], []⟩)]⟩], []⟩)]
noncomputable def slices_Equal_int64_int64_G : KG := ⟨TT, EQS, [], []⟩
noncomputable def slices_Equal_int64_int64 : vals [(false, .S (.I .i64)), (false, .S (.I .i64))] → Option (OutK.val (.data true [(false, .B)])) := funK slices_Equal_int64_int64_G slices_Equal_int64_int64_A fi79 79 0 [(false, .S (.I .i64)), (false, .S (.I .i64))] (.data true [(false, .B)])
noncomputable def slices_Equal_int64_int64_E : Entry := ⟨79, [(false, .S (.I .i64)), (false, .S (.I .i64))], .data true [(false, .B)], slices_Equal_int64_int64, 1⟩
def csr_Same_A : AnnK := [(35, ⟨[], [(1, ⟨[[], [], [], [], [.sl 2 0], [.sl 3 0]], [(false, []), (false, []), (false, []), (false, []), (false, []), (false, [])]⟩)]⟩)]
noncomputable def csr_Same_G : KG := ⟨TT, EQS, [csr_sure_E, slices_Equal_int_int_E, slices_Equal_int64_int64_E], []⟩
noncomputable def csr_Same : vals [yD1, yD1] → Option (OutK.val (.data true [(false, .B)])) := funK csr_Same_G csr_Same_A fi35 35 0 [yD1, yD1] (.data true [(false, .B)])
noncomputable def csr_Same_E : Entry := ⟨35, [yD1, yD1], .data true [(false, .B)], csr_Same, 9⟩
def ref07_SameItems_A : AnnK := [(25, ⟨[⟨false, 4, 0, [0, 1], ⟨[(5, false, [.d true (.I .i64)])], [], []⟩, [(.exit 0, ⟨[], [], []⟩), (.ret, ⟨[(4, false, [.d true .B])], [], []⟩)]⟩], []⟩)]
noncomputable def ref07_SameItems_G : KG := ⟨TT, EQS, [], []⟩
noncomputable def ref07_SameItems : vals [yD5, yD5] → Option (OutK.val (.data true [(false, .B)])) := funK ref07_SameItems_G ref07_SameItems_A fi25 25 0 [yD5, yD5] (.data true [(false, .B)])
noncomputable def ref07_SameItems_E : Entry := ⟨25, [yD5, yD5], .data true [(false, .B)], ref07_SameItems, 1⟩
def dcsc_size_A : AnnK := []
noncomputable def dcsc_size_G : KG := ⟨TT, EQS, [], []⟩
noncomputable def dcsc_size : vals [(false, .I .i64)] → Option (OutK.val (.data true [(false, .B)])) := funK dcsc_size_G dcsc_size_A fi85 85 0 [(false, .I .i64)] (.data true [(false, .B)])
noncomputable def dcsc_size_E : Entry := ⟨85, [(false, .I .i64)], .data true [(false, .B)], dcsc_size, 1⟩
def dcsc_rises_A : AnnK := [(86, ⟨[⟨false, 3, 0, [1, 8, 9], ⟨[(5, false, [.d true (.I .i64)]), (10, false, [.d true (.I .i64)])], [], []⟩, [(.exit 0, ⟨[], [], []⟩), (.ret, ⟨[(4, false, [.d true .B])], [], []⟩)]⟩], []⟩)]
noncomputable def dcsc_rises_G : KG := ⟨TT, EQS, [], []⟩
noncomputable def dcsc_rises : vals [(false, .S (.I .i64)), (false, .I .i64)] → Option (OutK.val (.data true [(false, .B)])) := funK dcsc_rises_G dcsc_rises_A fi86 86 0 [(false, .S (.I .i64)), (false, .I .i64)] (.data true [(false, .B)])
noncomputable def dcsc_rises_E : Entry := ⟨86, [(false, .S (.I .i64)), (false, .I .i64)], .data true [(false, .B)], dcsc_rises, 1⟩
def dcsc_Right_A : AnnK := [(48, ⟨[⟨false, 7, 0, [1, 3, 67], ⟨[(68, false, [.d true (.I .i64)])], [], []⟩, [(.exit 0, ⟨[], [], []⟩), (.ret, ⟨[(2, false, [.d true .B])], [], []⟩)]⟩], []⟩)]
noncomputable def dcsc_Right_G : KG := ⟨TT, EQS, [dcsc_size_E, dcsc_rises_E], []⟩
noncomputable def dcsc_Right : vals [yD0] → Option (OutK.val (.data true [(false, .B)])) := funK dcsc_Right_G dcsc_Right_A fi48 48 0 [yD0] (.data true [(false, .B)])
noncomputable def dcsc_Right_E : Entry := ⟨48, [yD0], .data true [(false, .B)], dcsc_Right, 2⟩
def dcsc_sure_A : AnnK := []
noncomputable def dcsc_sure_G : KG := ⟨TT, EQS, [dcsc_Right_E], []⟩
noncomputable def dcsc_sure : vals [yD0] → Option (OutK.val (.data false [yD0])) := funK dcsc_sure_G dcsc_sure_A fi82 82 0 [yD0] (.data false [yD0])
noncomputable def dcsc_sure_E : Entry := ⟨82, [yD0], .data false [yD0], dcsc_sure, 3⟩
def dcsc_find_A : AnnK := [(83, ⟨[⟨false, 2, 0, [1, 2], ⟨[(4, false, [.d true (.I .i64)]), (5, false, [.d true (.I .i64)]), (6, false, [.d true (.I .i64)]), (7, false, [.d true (.I .i64)])], [], []⟩, [(.exit 0, ⟨[(4, false, [.d true (.I .i64)]), (5, false, [.d true (.I .i64)])], [], []⟩)]⟩], []⟩)]
noncomputable def dcsc_find_G : KG := ⟨TT, EQS, [], []⟩
noncomputable def dcsc_find : vals [yD0, (false, .I .i64)] → Option (OutK.val (.data true [(false, .I .i64), (false, .I .i64)])) := funK dcsc_find_G dcsc_find_A fi83 83 0 [yD0, (false, .I .i64)] (.data true [(false, .I .i64), (false, .I .i64)])
noncomputable def dcsc_find_E : Entry := ⟨83, [yD0, (false, .I .i64)], .data true [(false, .I .i64), (false, .I .i64)], dcsc_find, 1⟩
def dcsc_Column_A : AnnK := [(43, ⟨[⟨false, 5, 0, [2, 6], ⟨[(7, false, [.o (.C (.I .i64) (.I .i64))]), (8, false, [.d true (.I .i64)])], [], []⟩, [(.exit 0, ⟨[(7, false, [.o (.C (.I .i64) (.I .i64))])], [], []⟩)]⟩], [(7, ⟨[[], [], [], [], [], [], [], [], [], [], [], [], [], [.sl 7 0], []], [(false, []), (false, []), (false, []), (false, []), (false, []), (false, []), (false, []), (false, []), (false, []), (false, []), (false, []), (false, []), (true, []), (true, []), (false, [])]⟩)]⟩)]
noncomputable def dcsc_Column_G : KG := ⟨TT, EQS, [dcsc_sure_E, dcsc_find_E], []⟩
noncomputable def dcsc_Column : vals [yD0, (false, .I .i64)] → Option (OutK.val (.own (.C (.I .i64) (.I .i64)))) := funK dcsc_Column_G dcsc_Column_A fi43 43 0 [yD0, (false, .I .i64)] (.own (.C (.I .i64) (.I .i64)))
noncomputable def dcsc_Column_E : Entry := ⟨43, [yD0, (false, .I .i64)], .own (.C (.I .i64) (.I .i64)), dcsc_Column, 4⟩
def dcsc_Count_A : AnnK := []
noncomputable def dcsc_Count_G : KG := ⟨TT, EQS, [dcsc_sure_E], []⟩
noncomputable def dcsc_Count : vals [yD0] → Option (OutK.val (.data true [(false, .I .i64)])) := funK dcsc_Count_G dcsc_Count_A fi54 54 0 [yD0] (.data true [(false, .I .i64)])
noncomputable def dcsc_Count_E : Entry := ⟨54, [yD0], .data true [(false, .I .i64)], dcsc_Count, 4⟩
def dcsc_Back_A : AnnK := [(50, ⟨[⟨false, 4, 0, [1, 2, 3, 23, 24], ⟨[(25, false, [.d true (.I .i64)])], [], [(.bx 3 2, .I .i64)]⟩, [(.exit 0, ⟨[], [], [(.bx 3 2, .I .i64)]⟩)]⟩, ⟨false, 9, 0, [2, 3, 43], ⟨[(44, false, [.d true (.I .i64)])], [], [(.bx 3 2, .I .i64)]⟩, [(.exit 2, ⟨[], [], [(.bx 3 2, .I .i64)]⟩)]⟩], [(2, ⟨[[], [], [], [], [], [], [], [], [], [], [], [], [], [], []], [(false, []), (false, []), (false, []), (false, []), (false, []), (false, []), (false, []), (true, []), (false, []), (false, []), (false, []), (false, []), (false, []), (true, []), (false, [13])]⟩), (6, ⟨[[], [], [], [], [], [], [], [], [], [], [], [.bx 3 2]], [(false, []), (false, []), (false, []), (false, []), (false, []), (false, []), (false, []), (false, []), (false, []), (false, []), (false, []), (false, [])]⟩), (11, ⟨[[], [], [], [], [], [], [], [], [], [], [], [], [], [], [], [], [], [.bx 3 2]], [(false, []), (false, []), (false, []), (false, []), (false, []), (false, []), (false, []), (false, []), (false, []), (false, []), (false, []), (false, []), (false, []), (false, []), (false, []), (false, []), (false, []), (false, [])]⟩)]⟩)]
noncomputable def dcsc_Back_G : KG := ⟨TT, EQS, [csr_Turn_E, dcsc_sure_E], []⟩
noncomputable def dcsc_Back : vals [yD0] → Option (OutK.val (.data true [yD1])) := funK dcsc_Back_G dcsc_Back_A fi50 50 0 [yD0] (.data true [yD1])
noncomputable def dcsc_Back_E : Entry := ⟨50, [yD0], .data true [yD1], dcsc_Back, 16⟩
def law21_Within_A : AnnK := []
noncomputable def law21_Within_G : KG := ⟨TT, EQS, [], []⟩
noncomputable def law21_Within : vals [(false, .I .i64), (false, .I .i64)] → Option (OutK.val (.data true [(false, .I .i64)])) := funK law21_Within_G law21_Within_A fi87 87 0 [(false, .I .i64), (false, .I .i64)] (.data true [(false, .I .i64)])
noncomputable def law21_Within_E : Entry := ⟨87, [(false, .I .i64), (false, .I .i64)], .data true [(false, .I .i64)], law21_Within, 1⟩
def law21_Graph_A : AnnK := [(58, ⟨[⟨false, 3, 0, [1, 2, 3], ⟨[(4, false, [.d true (.I .i64)])], [(3, [.d true (.I .i64), .m (.C (.I .i64) (.C (.I .i64) (.I .i64)))])], []⟩, [(.exit 0, ⟨[], [(3, [.d true (.I .i64), .m (.C (.I .i64) (.C (.I .i64) (.I .i64)))])], []⟩)]⟩], [(6, ⟨[[], [], [], [], [], [], [], [], [], [], [], [], [], [], [], [], [], [.bx 3 1], [], [.sl 3 0]], [(false, []), (false, []), (false, []), (false, []), (false, []), (false, []), (false, []), (false, []), (false, []), (false, []), (false, []), (false, []), (false, []), (false, []), (false, []), (false, []), (true, []), (true, []), (false, []), (false, [])]⟩)]⟩)]
noncomputable def law21_Graph_G : KG := ⟨TT, EQS, [law21_Within_E], []⟩
noncomputable def law21_Graph : vals [yD2] → Option (OutK.val (.data true [yD2])) := funK law21_Graph_G law21_Graph_A fi58 58 0 [yD2] (.data true [yD2])
noncomputable def law21_Graph_E : Entry := ⟨58, [yD2], .data true [yD2], law21_Graph, 2⟩
def edges_all_A : AnnK := []
noncomputable def edges_all_G : KG := ⟨TT, EQS, [], []⟩
noncomputable def edges_all : vals [yD4] → Option (OutK.val (.data true [(false, .B)])) := funK edges_all_G edges_all_A fi89 89 0 [yD4] (.data true [(false, .B)])
noncomputable def edges_all_E : Entry := ⟨89, [yD4], .data true [(false, .B)], edges_all, 1⟩
def edges_turned_A : AnnK := []
noncomputable def edges_turned_G : KG := ⟨TT, EQS, [], []⟩
noncomputable def edges_turned : vals [yD4] → Option (OutK.val (.data true [yD4])) := funK edges_turned_G edges_turned_A fi90 90 0 [yD4] (.data true [yD4])
noncomputable def edges_turned_E : Entry := ⟨90, [yD4], .data true [yD4], edges_turned, 1⟩
def edges_Turn_A : AnnK := [(88, ⟨[⟨false, 3, 0, [1, 2, 6, 7, 14, 15], ⟨[(16, false, [.d true (.I .i64)])], [(7, [.d true (.I .i64), .m (.C (.I .i64) (.C (.I .i64) (.I .i64)))])], []⟩, [(.exit 0, ⟨[], [(7, [.d true (.I .i64), .m (.C (.I .i64) (.C (.I .i64) (.I .i64)))])], []⟩)]⟩], [(6, ⟨[[], [], [], [], [], [], [.bx 7 1], [], [.sl 7 0]], [(false, []), (false, []), (false, []), (false, []), (false, []), (true, []), (true, []), (false, []), (false, [])]⟩)]⟩)]
noncomputable def edges_Turn_G : KG := ⟨TT, EQS, [edges_Canon_E, edges_all_E, edges_turned_E], [(88, fi88)]⟩
noncomputable def edges_Turn : vals [yD2] → Option (OutK.val (.data true [yD2])) := funK edges_Turn_G edges_Turn_A fi59 59 6 [yD2] (.data true [yD2])
noncomputable def edges_Turn_E : Entry := ⟨59, [yD2], .data true [yD2], edges_Turn, 9⟩
def edges_Outs_A : AnnK := [(91, ⟨[⟨false, 5, 0, [1, 2, 5, 21, 22], ⟨[(23, false, [.d true (.I .i64)])], [], [(.sl 5 0, .I .i64)]⟩, [(.exit 0, ⟨[], [], [(.sl 5 0, .I .i64)]⟩)]⟩], []⟩)]
noncomputable def edges_Outs_G : KG := ⟨TT, EQS, [edges_vertex_E], [(91, fi91), (92, fi92)]⟩
noncomputable def edges_Outs : vals [yD2] → Option (OutK.val (.gown (.I .i64))) := funK edges_Outs_G edges_Outs_A fi60 60 6 [yD2] (.gown (.I .i64))
noncomputable def edges_Outs_E : Entry := ⟨60, [yD2], .gown (.I .i64), edges_Outs, 8⟩
end K
end Ev
end Go.Proofs.Ytlkcneneagifoaa
end
