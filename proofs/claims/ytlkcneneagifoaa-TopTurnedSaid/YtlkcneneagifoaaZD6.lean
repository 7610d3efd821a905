/- Texts of a claim, joined. -/
import Derived.Test.YtlkcneneagifoaaZD5
set_option linter.unusedVariables false
set_option linter.unusedSimpArgs false
section
namespace Go.Proofs.Ytlkcneneagifoaa
namespace Ev
namespace K
open Go Go.RowKit
set_option linter.unusedVariables false
set_option linter.unusedSimpArgs false
structure Vl where
 id : Nat → Nat
 bo : Nat → Bool
def KB.there : KB → Prop
 | .dead => False
 | .mrows _ l => l ≠ []
 | _ => True
abbrev BK := Nat → Option KB
def RC (B : BK) (V : Vl) : KC → C → Prop
 | .n k x, c => c = iC k x
 | .b v, c => c = bC v
 | .p tag P d, c => c = bC (V.bo tag) ∧ V.bo tag = @decide P d
 | .bv x, c => c = bC x
 | .v x, c => c = .p true (.v x)
 | .nil, c => c = .p true (.s false 0 [])
 | .s e fr x, c => ∃ f, c = .p f (Sl.t e.row x) ∧ (fr = true → f = true)
 | .o e p, c => ∀ e' ne l, B p = some (.rows e' ne l) → c = .own (V.id p) 0 l.length
 | .m e p, c => ∀ e' l, B p = some (.mrows e' l) → c = moC l (V.id p)
 | .ptr p j, c => c = .ptr (V.id p) 0 j
 | .pe p i j, c => 0 ≤ i ∧ c = .ptr (V.id p) i.toNat j
 | .ip e fr x i y j, c => ∃ f, c = .iptr f x.sz (x.l.map e.row) i.toNat j ∧ x.l[i.toNat]? = some y ∧ (fr = true → f = true)
 | .clo fn ps, c => c = .clo (.func fn) [] (ps.map fun p => .ptr (V.id p) 0 0)
 | .yld p, c => c = .yld (V.id p)
def Sc (N : Nat) : KC → Prop
 | .p tag _ _ => tag < N
 | .o _ p => p < N
 | .m _ p => p < N
 | .ptr p _ => p < N
 | .pe p _ _ => p < N
 | .yld p => p < N
 | .clo _ ps => ∀ p ∈ ps, p < N
 | _ => True
def RCs (B : BK) (V : Vl) : List KC → List C → Prop
 | [], cs => cs = []
 | k :: r, cs => ∃ c s, cs = c :: s ∧ RC B V k c ∧ RCs B V r s
def Scs (N : Nat) (l : List KC) : Prop := ∀ c ∈ l, Sc N c
def RD1 (B : BK) (V : Vl) (k : KD) (d : D) : Prop :=
 match k with
 | .one c => ∃ c', d = .one c' ∧ RC B V c c'
 | .agg cs => ∃ cs', d = .agg cs' ∧ RCs B V cs cs'
 | .tup _ => False
def RTs (B : BK) (V : Vl) : List (Bool × List KC) → List D → Prop
 | [], ds => ds = []
 | x :: r, ds => ∃ d s, ds = d :: s ∧ RD1 B V (mkD x) d ∧ RTs B V r s
def RD (B : BK) (V : Vl) (k : KD) (d : D) : Prop :=
 match k with
 | .tup ts => ∃ ds, d = .tup ds ∧ RTs B V ts ds
 | k => RD1 B V k d
def ScD (N : Nat) : KD → Prop
 | .one c => Sc N c
 | .agg cs => Scs N cs
 | .tup ts => ∀ x ∈ ts, Scs N x.2
def BlkIs (B : BK) (V : Vl) (x : Blk) : KB → Prop
 | .box cs => ∃ sz cs', x = .own sz [cs'] ∧ RCs B V cs cs'
 | .rows e ne l => x = .own e.size (l.map (rowC e.row)) ∧ (ne = true → l ≠ [])
 | .mrows e l => x = .own e.size (l.map (rowC e.row))
 | .dead => x = .dead
def RB (B : BK) (V : Vl) (h : Heap) (k : Nat) : KB → Prop
 | .box cs => ∃ sz cs', getBlk h k = some (sz, [cs']) ∧ RCs B V cs cs'
 | .rows e ne l => getBlk h k = some (e.size, l.map (rowC e.row)) ∧ (ne = true → l ≠ [])
 | .mrows e l => l ≠ [] → getBlk h k = some (e.size, l.map (rowC e.row))
 | .dead => True
def ScB (N : Nat) : KB → Prop
 | .box cs => Scs N cs
 | _ => True
structure Rel (F : KF) (ks : KS) (V : Vl) (f : Nat → D) (h : Heap) : Prop where
 sl : ∀ i d, getS F ks i = some d → i < F.nt ∧ ScD ks.nx d ∧ RD (getB F ks) V d (f i)
 bl : ∀ p b, getB F ks p = some b → p < ks.nx ∧ ScB ks.nx b ∧ RB (getB F ks) V h (V.id p) b
 inj : ∀ p q b b', getB F ks p = some b → getB F ks q = some b' → b.there → b'.there → V.id p = V.id q → p = q
def LeB (N : Nat) (B B' : BK) : Prop := ∀ p, p < N → (∀ e ne l', B' p = some (.rows e ne l') → ∃ e0 ne0 l0, B p = some (.rows e0 ne0 l0) ∧ l0.length = l'.length) ∧ ∀ e l', B' p = some (.mrows e l') → ∃ e0 l0, B p = some (.mrows e0 l0) ∧ l0.length = l'.length
def Agree (N : Nat) (V V' : Vl) : Prop := ∀ q, q < N → V'.id q = V.id q ∧ V'.bo q = V.bo q
theorem LeB.refl (N : Nat) (B : BK) : LeB N B B := fun p hp => ⟨fun e ne l h => ⟨e, ne, l, h, rfl⟩, fun e l h => ⟨e, l, h, rfl⟩⟩
theorem LeB.trans {N M : Nat} {B B' B'' : BK} (h : LeB N B B') (h' : LeB M B' B'') (hn : N ≤ M) : LeB N B B'' := fun p hp => ⟨fun e ne l hl => by
  obtain ⟨e1, n1, l1, h1, h2⟩ := (h' p (by omega)).1 e ne l hl
  obtain ⟨e0, n0, l0, h3, h4⟩ := (h p hp).1 _ _ _ h1
  exact ⟨e0, n0, l0, h3, h4.trans h2⟩, fun e l hl => by
  obtain ⟨e1, l1, h1, h2⟩ := (h' p (by omega)).2 e l hl
  obtain ⟨e0, l0, h3, h4⟩ := (h p hp).2 _ _ h1
  exact ⟨e0, l0, h3, h4.trans h2⟩⟩
theorem Agree.refl (N : Nat) (V : Vl) : Agree N V V := fun q hq => ⟨rfl, rfl⟩
theorem Agree.trans {N M : Nat} {V V' V'' : Vl} (h : Agree N V V') (h' : Agree M V' V'') (hn : N ≤ M) : Agree N V V'' := fun q hq => ⟨((h' q (by omega)).1).trans (h q hq).1, ((h' q (by omega)).2).trans (h q hq).2⟩
theorem moC_len {α β : Type} {l : List α} {m : List β} {k : Nat} (h : l.length = m.length) : moC l k = moC m k := by
 cases l with
 | nil => cases m with
  | nil => rfl
  | cons b m => simp at h
 | cons a l => cases m with
  | nil => simp at h
  | cons b m => show C.own k 0 _ = C.own k 0 _; rw [h]
section
variable {N : Nat} {B B' : BK} {V V' : Vl}
theorem RC.mono {c : KC} {x : C} (hs : Sc N c) (hb : LeB N B B') (ha : Agree N V V') (h : RC B V c x) : RC B' V' c x := by
 cases c with
 | n k y => exact h
 | b v => exact h
 | p tag P d => have := (ha tag hs).2; exact ⟨by rw [this]; exact h.1, by rw [this]; exact h.2⟩
 | bv y => exact h
 | v y => exact h
 | nil => exact h
 | s e fr y => exact h
 | o e p =>
  intro e' ne l hl
  obtain ⟨e0, n0, l0, h1, h2⟩ := (hb p hs).1 e' ne l hl
  rw [(ha p hs).1, ← h2]
  exact h e0 n0 l0 h1
 | m e p =>
  intro e' l hl
  obtain ⟨e0, l0, h1, h2⟩ := (hb p hs).2 e' l hl
  rw [(ha p hs).1, ← moC_len h2]
  exact h e0 l0 h1
 | ptr p j => show x = _; rw [(ha p hs).1]; exact h
 | pe p i j => exact ⟨h.1, by rw [(ha p hs).1]; exact h.2⟩
 | ip e fr y i z j => exact h
 | clo fn ps =>
  show x = _
  have : (ps.map fun p => C.ptr (V'.id p) 0 0) = ps.map fun p => .ptr (V.id p) 0 0 := List.map_congr_left fun p hp => by rw [(ha p (hs p hp)).1]
  rw [this]; exact h
 | yld p => show x = _; rw [(ha p hs).1]; exact h
theorem RCs.mono : ∀ {l : List KC} {xs : List C}, Scs N l → LeB N B B' → Agree N V V' → RCs B V l xs → RCs B' V' l xs
 | [], xs, hs, hb, ha, h => h
 | c :: l, xs, hs, hb, ha, ⟨x, s, h1, h2, h3⟩ => ⟨x, s, h1, h2.mono (hs c (by simp)) hb ha, h3.mono (fun y hy => hs y (by simp [hy])) hb ha⟩
theorem mkD_scs {x : Bool × List KC} (hs : Scs N x.2) : ScD N (mkD x) := by
 obtain ⟨b, cs⟩ := x
 cases b with
 | true => exact hs
 | false => match cs, hs with
  | [], hs => exact hs
  | [c], hs => exact hs c (by simp)
  | c :: d :: r, hs => exact hs
theorem RD1.mono {k : KD} {d : D} (hs : ScD N k) (hb : LeB N B B') (ha : Agree N V V') (h : RD1 B V k d) : RD1 B' V' k d := by
 cases k with
 | one c => obtain ⟨c', h1, h2⟩ := h; exact ⟨c', h1, h2.mono hs hb ha⟩
 | agg cs => obtain ⟨c', h1, h2⟩ := h; exact ⟨c', h1, h2.mono hs hb ha⟩
 | tup ts => exact h
theorem RTs.mono : ∀ {l : List (Bool × List KC)} {xs : List D}, (∀ x ∈ l, Scs N x.2) → LeB N B B' → Agree N V V' → RTs B V l xs → RTs B' V' l xs
 | [], xs, hs, hb, ha, h => h
 | c :: l, xs, hs, hb, ha, ⟨x, s, h1, h2, h3⟩ => ⟨x, s, h1, h2.mono (mkD_scs (hs c (by simp))) hb ha, h3.mono (fun y hy => hs y (by simp [hy])) hb ha⟩
theorem RD.mono {k : KD} {d : D} (hs : ScD N k) (hb : LeB N B B') (ha : Agree N V V') (h : RD B V k d) : RD B' V' k d := by
 cases k with
 | one c => exact RD1.mono (k := .one c) hs hb ha h
 | agg cs => exact RD1.mono (k := .agg cs) hs hb ha h
 | tup ts => obtain ⟨ds, h1, h2⟩ := h; exact ⟨ds, h1, h2.mono hs hb ha⟩
theorem RB.mono {h : Heap} {k : Nat} {b : KB} (hs : ScB N b) (hb : LeB N B B') (ha : Agree N V V') (hr : RB B V h k b) : RB B' V' h k b := by
 cases b with
 | box cs => obtain ⟨sz, cs', h1, h2⟩ := hr; exact ⟨sz, cs', h1, h2.mono hs hb ha⟩
 | rows e ne l => exact hr
 | mrows e l => exact hr
 | dead => trivial
theorem RB.heap {h h' : Heap} {k : Nat} {b : KB} (hh : getBlk h' k = getBlk h k) (hr : RB B V h k b) : RB B V h' k b := by
 cases b with
 | box cs => obtain ⟨sz, cs', h1, h2⟩ := hr; exact ⟨sz, cs', hh.trans h1, h2⟩
 | rows e ne l => exact ⟨hh.trans hr.1, hr.2⟩
 | mrows e l => exact fun hl => hh.trans (hr hl)
 | dead => trivial
end
theorem Sc.mono {N M : Nat} (hn : N ≤ M) {c : KC} (h : Sc N c) : Sc M c := by
 cases c with
 | p tag P d => exact Nat.lt_of_lt_of_le h hn
 | o e p => exact Nat.lt_of_lt_of_le h hn
 | m e p => exact Nat.lt_of_lt_of_le h hn
 | ptr p j => exact Nat.lt_of_lt_of_le h hn
 | pe p i j => exact Nat.lt_of_lt_of_le h hn
 | yld p => exact Nat.lt_of_lt_of_le h hn
 | clo fn ps => exact fun p hp => Nat.lt_of_lt_of_le (h p hp) hn
 | _ => trivial
theorem Scs.mono {N M : Nat} (hn : N ≤ M) {l : List KC} (h : Scs N l) : Scs M l := fun c hc => (h c hc).mono hn
theorem ScD.mono {N M : Nat} (hn : N ≤ M) {d : KD} (h : ScD N d) : ScD M d := by
 cases d with
 | one c => exact Sc.mono hn h
 | agg cs => exact Scs.mono hn h
 | tup ts => exact fun x hx => (h x hx).mono hn
theorem ScB.mono {N M : Nat} (hn : N ≤ M) {b : KB} (h : ScB N b) : ScB M b := by
 cases b with
 | box cs => exact Scs.mono hn h
 | _ => trivial
theorem castV_some {t t' : Ty} {x : t.val} {y : t'.val} (h : castV t t' x = some y) : ∃ e : t = t', e ▸ x = y := by
 unfold castV at h
 split at h
 ·rename_i e; exact ⟨e, Option.some.inj h⟩
 ·simp at h
theorem row_len : ∀ (e : Ty) (x : e.val), (e.row x).length = e.size
 | .I _, _ => rfl
 | .B, _ => rfl
 | .S _, _ => rfl
 | .U, _ => rfl
 | .C a b, x => by
  show (a.row x.1 ++ b.row x.2).length = a.size + b.size
  rw [List.length_append, row_len a, row_len b]
theorem kcells_len (fr : Bool) : ∀ (e : Ty) (x : e.val), (kcells fr e x).length = e.size
 | .I _, _ => rfl
 | .B, _ => rfl
 | .S _, _ => rfl
 | .U, _ => rfl
 | .C a b, x => by
  show (kcells fr a x.1 ++ kcells fr b x.2).length = a.size + b.size
  rw [List.length_append, kcells_len fr a, kcells_len fr b]
theorem kcells_sc (N : Nat) (fr : Bool) : ∀ (e : Ty) (x : e.val), Scs N (kcells fr e x)
 | .I _, _ => fun c hc => by rw [List.mem_singleton.1 hc]; trivial
 | .B, _ => fun c hc => by rw [List.mem_singleton.1 hc]; trivial
 | .S _, _ => fun c hc => by rw [List.mem_singleton.1 hc]; trivial
 | .U, _ => fun c hc => by simp [kcells] at hc
 | .C a b, x => fun c hc => by
  rcases List.mem_append.1 (show c ∈ kcells fr a x.1 ++ kcells fr b x.2 from hc) with h | h
  ·exact kcells_sc N fr a x.1 c h
  ·exact kcells_sc N fr b x.2 c h
section
variable {B : BK} {V : Vl}
theorem RCs.append : ∀ {k1 k2 : List KC} {c1 c2 : List C}, RCs B V k1 c1 → RCs B V k2 c2 → RCs B V (k1 ++ k2) (c1 ++ c2)
 | [], k2, c1, c2, h1, h2 => by rw [show c1 = [] from h1]; exact h2
 | k :: k1, k2, c1, c2, ⟨c, s, e1, h1, h3⟩, h2 => ⟨c, s ++ c2, by rw [e1]; rfl, h1, h3.append h2⟩
theorem RCs.len : ∀ {k : List KC} {c : List C}, RCs B V k c → c.length = k.length
 | [], c, h => by rw [show c = [] from h]; rfl
 | _ :: k, c, ⟨x, s, e, _, h⟩ => by rw [e, List.length_cons, List.length_cons, h.len]
theorem RCs.drop : ∀ {k : List KC} {c : List C} (n : Nat), RCs B V k c → RCs B V (k.drop n) (c.drop n)
 | k, c, 0, h => h
 | [], c, n + 1, h => by rw [show c = [] from h]; exact rfl
 | _ :: k, c, n + 1, ⟨x, s, e, _, h⟩ => by rw [e]; exact h.drop n
theorem RCs.take : ∀ {k : List KC} {c : List C} (n : Nat), RCs B V k c → RCs B V (k.take n) (c.take n)
 | k, c, 0, h => rfl
 | [], c, n + 1, h => by rw [show c = [] from h]; exact rfl
 | _ :: k, c, n + 1, ⟨x, s, e, h1, h⟩ => ⟨x, s.take n, by rw [e]; rfl, h1, h.take n⟩
theorem RCs.cut {k k2 : List KC} {c : List C} {i n : Nat} (h : RCs B V k c) (hk : Ev.cut k i n = some k2) : ∃ c2, Ev.cut c i n = some c2 ∧ RCs B V k2 c2 := by
 unfold Ev.cut at hk ⊢
 split at hk
 ·rename_i hl
  rw [if_pos (by rw [h.len]; exact hl)]
  refine ⟨_, rfl, ?_⟩
  rw [← Option.some.inj hk]
  exact (h.drop i).take n
 ·simp at hk
theorem RCs.patch {k k2 x : List KC} {c y : List C} {i : Nat} (h : RCs B V k c) (hx : RCs B V x y) (hk : Ev.patch k i x = some k2) : ∃ c2, Ev.patch c i y = some c2 ∧ RCs B V k2 c2 := by
 unfold Ev.patch at hk ⊢
 split at hk
 ·rename_i hl
  rw [if_pos (by rw [h.len, hx.len]; exact hl)]
  refine ⟨_, rfl, ?_⟩
  rw [← Option.some.inj hk, hx.len]
  exact ((h.take i).append hx).append (h.drop _)
 ·simp at hk
theorem scs_cut {N : Nat} {k k2 : List KC} {i n : Nat} (h : Scs N k) (hk : Ev.cut k i n = some k2) : Scs N k2 := by
 unfold Ev.cut at hk
 split at hk
 ·rw [← Option.some.inj hk]; exact fun c hc => h c (List.mem_of_mem_drop (List.mem_of_mem_take hc))
 ·simp at hk
theorem scs_patch {N : Nat} {k k2 x : List KC} {i : Nat} (h : Scs N k) (hx : Scs N x) (hk : Ev.patch k i x = some k2) : Scs N k2 := by
 unfold Ev.patch at hk
 split at hk
 ·rw [← Option.some.inj hk]
  intro c hc
  simp only [List.mem_append] at hc
  rcases hc with (hc | hc) | hc
  ·exact h c (List.mem_of_mem_take hc)
  ·exact hx c hc
  ·exact h c (List.mem_of_mem_drop hc)
 ·simp at hk
theorem kcells_rel {fr f : Bool} (hf : fr = true → f = true) : ∀ (e : Ty) (x : e.val), RCs B V (kcells fr e x) ((e.row x).map (pC f))
 | .I _, _ => ⟨_, _, rfl, rfl, rfl⟩
 | .B, _ => ⟨_, _, rfl, rfl, rfl⟩
 | .S e, x => ⟨_, _, rfl, ⟨f, rfl, hf⟩, rfl⟩
 | .U, _ => rfl
 | .C a b, x => by
  show RCs B V (kcells fr a x.1 ++ kcells fr b x.2) ((a.row x.1 ++ b.row x.2).map (pC f))
  rw [List.map_append]
  exact (kcells_rel hf a x.1).append (kcells_rel hf b x.2)
theorem RCs.one {c : KC} {x : C} (h : RC B V c x) : RCs B V [c] [x] := ⟨x, [], rfl, h, rfl⟩
theorem RCs.one_inv {c : KC} {xs : List C} (h : RCs B V [c] xs) : ∃ x, xs = [x] ∧ RC B V c x := by
 obtain ⟨x, s, e, h1, h2⟩ := h
 exact ⟨x, by rw [e, show s = [] from h2], h1⟩
theorem decC_plain {e : Ty} {c : KC} {x : e.val} {y : C} (h : decC noB e c = some x) (hf : frC c = true) (hr : RC B V c y) : [y] = (e.row x).map (pC true) := by
 unfold decC at h
 split at h
 ·rename_i k k' z
  split at h
  ·rename_i hk; subst hk; rw [← Option.some.inj h]; rw [show y = _ from hr]; rfl
  ·simp at h
 ·rw [← Option.some.inj h, show y = _ from hr]; rfl
 ·rename_i tag P d
  rw [← Option.some.inj h, hr.1, hr.2]; rfl
 ·rw [← Option.some.inj h, show y = _ from hr]; rfl
 ·rw [← Option.some.inj h, show y = _ from hr]; rfl
 ·rename_i e0 e' fr z
  obtain ⟨he, hx⟩ := castV_some h
  cases he
  obtain ⟨f, h1, h2⟩ := hr
  rw [← hx, h1, h2 hf]; rfl
 ·simp [noB] at h
 ·simp [noB] at h
 ·simp at h
theorem dec_plain : ∀ {e : Ty} {cs : List KC} {x : e.val} {ys : List C}, dec noB e cs = some x → cs.all frC = true → RCs B V cs ys → ys = (e.row x).map (pC true) := by
 intro e
 induction e with
 | C a b iha ihb =>
  intro cs x ys h hf hr
  unfold dec at h
  simp only [Option.bind_eq_some_iff] at h
  obtain ⟨x1, h1, y1, h2, h3⟩ := h
  have := Option.some.inj h3
  subst this
  have e1 := iha h1 (List.all_eq_true.2 fun c hc => List.all_eq_true.1 hf c (List.mem_of_mem_take hc)) (hr.take a.size)
  have e2 := ihb h2 (List.all_eq_true.2 fun c hc => List.all_eq_true.1 hf c (List.mem_of_mem_drop hc)) (hr.drop a.size)
  show ys = (a.row x1 ++ b.row y1).map (pC true)
  rw [List.map_append, ← e1, ← e2, List.take_append_drop]
 | U =>
  intro cs x ys h hf hr
  cases cs with
  | nil => rw [show ys = [] from hr]; rfl
  | cons c r => cases r with
   | nil => simp [dec, decC] at h
   | cons d r => simp [dec] at h
 | _ =>
  intro cs x ys h hf hr
  cases cs with
  | nil => simp [dec] at h
  | cons c r => cases r with
   | nil =>
    obtain ⟨y, rfl, hy⟩ := hr.one_inv
    exact decC_plain (by simpa [dec] using h) (by simpa using hf) hy
   | cons d r => simp [dec] at h
end
end K
end Ev
end Go.Proofs.Ytlkcneneagifoaa
end
section
namespace Go.Proofs.Ytlkcneneagifoaa
namespace Ev
namespace K
open Go Go.RowKit
set_option linter.unusedVariables false
set_option linter.unusedSimpArgs false
def RDl (B : BK) (V : Vl) : List KD → List D → Prop
 | [], ds => ds = []
 | k :: r, ds => ∃ d s, ds = d :: s ∧ RD B V k d ∧ RDl B V r s
theorem kC_rel {B : BK} {V : Vl} (v : Value) : RC B V (kC v) (zeroC v) := by
 unfold kC
 split
 ·rfl
 ·rfl
 ·rfl
 ·rename_i h1 h2 h3
  unfold zeroC
  split
  ·exact absurd rfl h3
  ·rfl
theorem kC_sc (N : Nat) (v : Value) : Sc N (kC v) := by
 unfold kC
 split <;> trivial
theorem kCs_rel {B : BK} {V : Vl} : ∀ l : List Value, RCs B V (l.map kC) (l.map zeroC)
 | [] => rfl
 | v :: l => ⟨_, _, rfl, kC_rel v, kCs_rel l⟩
theorem kCs_sc (N : Nat) (l : List Value) : Scs N (l.map kC) := fun c hc => by
 obtain ⟨v, _, rfl⟩ := List.mem_map.1 hc
 exact kC_sc N v
theorem kConst_rel {B : BK} {V : Vl} {v : Value} {d : KD} (h : kConst v = some d) : ∃ d', constD v = some d' ∧ RD B V d d' := by
 unfold kConst at h
 split at h
 ·rename_i cs
  split at h
  ·rename_i ha
   rw [← Option.some.inj h]
   refine ⟨.agg (cs.toList.map zeroC), ?_, _, rfl, kCs_rel _⟩
   unfold constD
   simp only
   rw [if_pos ha]
  ·simp at h
 ·simp at h
 ·rename_i h1 h2
  rw [← Option.some.inj h]
  refine ⟨.one (zeroC v), ?_, _, rfl, kC_rel v⟩
  unfold constD
  split
  ·exact absurd rfl (h1 _)
  ·exact absurd rfl (h2 _)
  ·rfl
theorem kConst_sc {N : Nat} {v : Value} {d : KD} (h : kConst v = some d) : ScD N d := by
 unfold kConst at h
 split at h
 ·split at h
  ·rw [← Option.some.inj h]; exact kCs_sc N _
  ·simp at h
 ·simp at h
 ·rw [← Option.some.inj h]; exact kC_sc N _
section
variable {F : KF} {ks : KS} {V : Vl} {f : Nat → D} {h : Heap}
theorem blt_of {a b : Nat} (h : a < b) : Nat.blt a b = true := by simpa using h
theorem kO_ov (hr : Rel F ks V f h) {x : Operand} {d : KD} (hx : kO F ks x = some d) : ∃ d', ov F.nt f x = some d' ∧ ScD ks.nx d ∧ RD (getB F ks) V d d' := by
 cases x with
 | tmp i =>
  obtain ⟨h1, h2, h3⟩ := hr.sl i d hx
  refine ⟨f i, ?_, h2, h3⟩
  show cond (Nat.blt i F.nt) (some (f i)) none = _
  rw [blt_of h1]; rfl
 | const v =>
  obtain ⟨d', h1, h2⟩ := kConst_rel (B := getB F ks) (V := V) (show kConst v = some d from hx)
  exact ⟨d', h1, kConst_sc hx, h2⟩
 | global g => simp [kO] at hx
 | func k =>
  have := Option.some.inj (show some (KD.one (.v (.func (.func k) #[] #[]))) = some d from hx)
  subst this
  exact ⟨_, rfl, trivial, _, rfl, rfl⟩
theorem kArgs_ov (hr : Rel F ks V f h) : ∀ {l : List Operand} {ds : List KD}, kArgs F ks l = some ds → ∃ ds', l.mapM (ov F.nt f) = some ds' ∧ (∀ d ∈ ds, ScD ks.nx d) ∧ RDl (getB F ks) V ds ds'
 | [], ds, hx => by
  have := Option.some.inj (show some [] = some ds from hx)
  subst this
  exact ⟨[], rfl, by simp, rfl⟩
 | x :: l, ds, hx => by
  simp only [kArgs, Option.bind_eq_some_iff] at hx
  obtain ⟨d, h1, r, h2, h3⟩ := hx
  have := Option.some.inj h3
  subst this
  obtain ⟨d', g1, g2, g3⟩ := kO_ov hr h1
  obtain ⟨r', e1, e2, e3⟩ := kArgs_ov hr h2
  refine ⟨d' :: r', by rw [List.mapM_cons, g1, e1]; rfl, ?_, d', r', rfl, g3, e3⟩
  intro y hy
  rcases List.mem_cons.1 hy with rfl | hy
  ·exact g2
  ·exact e2 y hy
theorem kParts_ov (hr : Rel F ks V f h) : ∀ {l : List (Nat × Operand)} {ps : List (Nat × KD)}, kParts F ks l = some ps → ∃ ps', partsOf F.nt f l = some ps' ∧ (∀ x ∈ ps, ScD ks.nx x.2) ∧ ps'.map (·.1) = ps.map (·.1) ∧ RDl (getB F ks) V (ps.map (·.2)) (ps'.map (·.2))
 | [], ps, hx => by
  have := Option.some.inj (show some [] = some ps from hx)
  subst this
  exact ⟨[], rfl, by simp, rfl, rfl⟩
 | (i, x) :: l, ps, hx => by
  simp only [kParts, Option.bind_eq_some_iff] at hx
  obtain ⟨d, h1, r, h2, h3⟩ := hx
  have := Option.some.inj h3
  subst this
  obtain ⟨d', g1, g2, g3⟩ := kO_ov hr h1
  obtain ⟨r', e1, e2, e3, e4⟩ := kParts_ov hr h2
  refine ⟨(i, d') :: r', ?_, ?_, ?_, ?_⟩
  ·unfold partsOf at e1 ⊢
   rw [List.mapM_cons, e1]
   simp only [g1, Option.map_some, Option.bind_eq_bind, Option.bind_some, Option.pure_def]
  ·intro y hy
   rcases List.mem_cons.1 hy with rfl | hy
   ·exact g2
   ·exact e2 y hy
  ·simp only [List.map_cons, e3]
  ·exact ⟨d', r'.map (·.2), rfl, g3, e4⟩
def Bls (B : BK) (V : Vl) (h : Heap) : Prop := ∀ p b, B p = some b → RB B V h (V.id p) b
theorem Rel.bls (hr : Rel F ks V f h) : Bls (getB F ks) V h := fun p b hb => (hr.bl p b hb).2.2
theorem HB_one {k sz : Nat} {es : List (List C)} (hg : getBlk h k = some (sz, es)) : HB h [[(k, sz, es)]] := ⟨by simp, fun x hx => by simp at hx; subst hx; exact hg⟩
theorem HB_nil : HB h [] := ⟨List.nodup_nil, fun x hx => by simp at hx⟩
theorem view_row {r : List T} (m : Nat) : (r.map (pC true)).mapM (view h (m + 1)) = some (r.map fun t => (true, t)) := by
 induction r with
 | nil => rfl
 | cons t r ih =>
  rw [List.map_cons, List.mapM_cons, ih]
  cases t <;> rfl
theorem view_dec {B : BK} {e : Ty} {c : KC} {x : e.val} {y : C} (hB : Bls B V h) (hd : decC B e c = some x) (hr : RC B V c y) : ∃ fl t, (∀ m, view h (m + 2) y = some (fl, t)) ∧ [t] = e.row x ∧ (frC c = true → fl = true) := by
 unfold decC at hd
 split at hd
 ·rename_i k k' z
  split at hd
  ·rename_i hk; subst hk; rw [← Option.some.inj hd, show y = _ from hr]; exact ⟨true, _, fun m => rfl, rfl, fun _ => rfl⟩
  ·simp at hd
 ·rw [← Option.some.inj hd, show y = _ from hr]; exact ⟨true, _, fun m => rfl, rfl, fun _ => rfl⟩
 ·rename_i tag P d
  rw [← Option.some.inj hd, hr.1, hr.2]; exact ⟨true, _, fun m => rfl, rfl, fun _ => rfl⟩
 ·rw [← Option.some.inj hd, show y = _ from hr]; exact ⟨true, _, fun m => rfl, rfl, fun _ => rfl⟩
 ·rw [← Option.some.inj hd, show y = _ from hr]; exact ⟨true, _, fun m => rfl, rfl, fun _ => rfl⟩
 ·rename_i e0 e' fr z
  obtain ⟨he, hx⟩ := castV_some hd
  cases he
  obtain ⟨fl, h1, h2⟩ := hr
  rw [← hx, h1]; exact ⟨fl, _, fun m => rfl, rfl, h2⟩
 ·rename_i e0 e1 p
  split at hd
  ·rename_i e' ne l hp
   obtain ⟨he, hx⟩ := castV_some hd
   cases he
   have h1 := hr _ _ _ hp
   have h2 := (hB p _ hp).1
   rw [← hx, h1]
   exact ⟨true, _, fun m => vc_own (r := Ty.row _) (L := [[(V.id p, _, l.map (rowC (Ty.row _)))]]) 0 rfl (fun x h m => view_row m) h (HB_one h2) m, rfl, fun _ => rfl⟩
  ·simp at hd
 ·rename_i e0 e1 p
  split at hd
  ·rename_i e' l hp
   obtain ⟨he, hx⟩ := castV_some hd
   cases he
   have h1 := hr _ _ hp
   rw [← hx, h1]
   cases l with
   | nil => exact ⟨true, _, fun m => rfl, rfl, fun _ => rfl⟩
   | cons a l =>
    have h2 := hB p _ hp (by simp)
    exact ⟨true, _, fun m => vc_own (r := Ty.row _) (L := [[(V.id p, _, (a :: l).map (rowC (Ty.row _)))]]) 0 rfl (fun x h m => view_row m) h (HB_one h2) m, rfl, fun _ => rfl⟩
  ·simp at hd
 ·simp at hd
theorem views_dec {B : BK} (hB : Bls B V h) : ∀ {e : Ty} {cs : List KC} {x : e.val} {ys : List C}, dec B e cs = some x → RCs B V cs ys → ∃ l, (∀ m, ys.mapM (view h (m + 2)) = some l) ∧ l.map (·.2) = e.row x ∧ (cs.all frC = true → l.all (·.1) = true) := by
 intro e
 induction e with
 | C a b iha ihb =>
  intro cs x ys hd hr
  unfold dec at hd
  simp only [Option.bind_eq_some_iff] at hd
  obtain ⟨x1, h1, y1, h2, h3⟩ := hd
  have := Option.some.inj h3
  subst this
  obtain ⟨l1, e1, e2, e3⟩ := iha h1 (hr.take a.size)
  obtain ⟨l2, g1, g2, g3⟩ := ihb h2 (hr.drop a.size)
  refine ⟨l1 ++ l2, fun m => ?_, ?_, fun hf => ?_⟩
  ·have : ys = ys.take a.size ++ ys.drop a.size := (List.take_append_drop _ _).symm
   rw [this, List.mapM_append, e1 m, g1 m]; rfl
  ·rw [List.map_append, e2, g2]; rfl
  ·rw [List.all_append, e3 (List.all_eq_true.2 fun c hc => List.all_eq_true.1 hf c (List.mem_of_mem_take hc)), g3 (List.all_eq_true.2 fun c hc => List.all_eq_true.1 hf c (List.mem_of_mem_drop hc))]; rfl
 | U =>
  intro cs x ys hd hr
  cases cs with
  | nil => rw [show ys = [] from hr]; exact ⟨[], fun m => rfl, rfl, fun _ => rfl⟩
  | cons c r => cases r with
   | nil => simp [dec, decC] at hd
   | cons d r => simp [dec] at hd
 | _ =>
  intro cs x ys hd hr
  cases cs with
  | nil => simp [dec] at hd
  | cons c r => cases r with
   | nil =>
    obtain ⟨y, rfl, hy⟩ := hr.one_inv
    obtain ⟨fl, t, h1, h2, h3⟩ := view_dec hB (by simpa [dec] using hd) hy
    exact ⟨[(fl, t)], fun m => by rw [List.mapM_cons, h1 m]; rfl, h2, fun hf => by simpa using h3 (by simpa using hf)⟩
   | cons d r => simp [dec] at hd
theorem viewD_dec {B : BK} (hB : Bls B V h) {t : TyD} {d : KD} {x : t.2.val} {y : D} (hd : decD B t d = some x) (hr : RD B V d y) : ∃ fl, viewD h y = some (fl, tdOf t x) ∧ (frD d = true → fl = true) := by
 obtain ⟨ag, e⟩ := t
 cases d with
 | one c =>
  obtain ⟨c', rfl, hc⟩ := hr
  simp only [decD] at hd
  cases ag with
  | true => simp at hd
  | false =>
   obtain ⟨fl, t, h1, h2, h3⟩ := view_dec hB (by simpa using hd) hc
   refine ⟨fl, ?_, h3⟩
   show (view h 6 c').bind _ = _
   rw [h1 4]
   show some (fl, TD.one t) = some (fl, tdOf (false, e) x)
   unfold tdOf
   simp only [← h2]
 | agg cs =>
  obtain ⟨cs', rfl, hc⟩ := hr
  simp only [decD] at hd
  cases ag with
  | false => simp at hd
  | true =>
   obtain ⟨l, h1, h2, h3⟩ := views_dec hB (by simpa using hd) hc
   refine ⟨l.all (·.1), ?_, h3⟩
   show (cs'.mapM (view h 6)).bind _ = _
   rw [h1 4]
   show some (l.all (·.1), TD.agg (l.map (·.2))) = some (_, tdOf (true, e) x)
   rw [h2]; rfl
 | tup ts => simp [decD] at hd
theorem viewDs_dec {B : BK} (hB : Bls B V h) : ∀ {ts : List TyD} {ds : List KD} {x : vals ts} {ys : List D}, decDs B ts ds = some x → RDl B V ds ys → ∃ l, ys.mapM (viewD h) = some l ∧ l.map (·.2) = tdsOf ts x ∧ (ds.all frD = true → l.all (·.1) = true)
 | [], [], x, ys, hd, hr => by rw [show ys = [] from hr]; exact ⟨[], rfl, rfl, fun _ => rfl⟩
 | [], d :: ds, x, ys, hd, hr => by simp [decDs] at hd
 | [t], [], x, ys, hd, hr => by simp [decDs] at hd
 | [t], [d], x, ys, hd, hr => by
  obtain ⟨y, s, rfl, h1, h2⟩ := hr
  rw [show s = [] from h2]
  obtain ⟨fl, g1, g2⟩ := viewD_dec hB (show decD B t d = some x from hd) h1
  exact ⟨[(fl, tdOf t x)], by rw [List.mapM_cons, g1]; rfl, rfl, fun hf => by simpa using g2 (by simpa using hf)⟩
 | [t], d :: d' :: ds, x, ys, hd, hr => by simp [decDs] at hd
 | t :: t' :: r, [], x, ys, hd, hr => by simp [decDs] at hd
 | t :: t' :: r, d :: ds, x, ys, hd, hr => by
  simp only [decDs, Option.bind_eq_some_iff] at hd
  obtain ⟨x1, h1, y1, h2, h3⟩ := hd
  have := Option.some.inj h3
  subst this
  obtain ⟨y, s, rfl, e1, e2⟩ := hr
  obtain ⟨fl, g1, g2⟩ := viewD_dec hB h1 e1
  obtain ⟨l, k1, k2, k3⟩ := viewDs_dec hB h2 e2
  refine ⟨(fl, tdOf t x1) :: l, by rw [List.mapM_cons, g1, k1]; rfl, by rw [List.map_cons, k2]; rfl, fun hf => ?_⟩
  simp only [List.all_cons, Bool.and_eq_true] at hf ⊢
  exact ⟨g2 hf.1, k3 hf.2⟩
theorem mkD_rel {B : BK} {fr fl : Bool} (hf : fr = true → fl = true) (t : TyD) (x : t.2.val) : RD1 B V (mkD (kdOf fr t x)) (unview fl (tdOf t x)) := by
 obtain ⟨ag, e⟩ := t
 have hc := kcells_rel (B := B) (V := V) hf e x
 cases ag with
 | true => exact ⟨_, rfl, hc⟩
 | false =>
  have hl := kcells_len fr e x
  have hl2 := row_len e x
  show RD1 B V (mkD (false, kcells fr e x)) (unview fl (match e.row x with
   | [y] => .one y
   | ys => .agg ys))
  revert hc hl hl2
  cases kcells fr e x with
  | nil =>
   intro hc hl hl2
   cases hrw : e.row x with
   | nil => exact ⟨_, rfl, rfl⟩
   | cons y ys => rw [hrw] at hl2; simp only [List.length_nil, List.length_cons] at hl hl2; omega
  | cons c r =>
   cases r with
   | nil =>
    intro hc hl hl2
    cases hrw : e.row x with
    | nil => rw [hrw] at hl2; simp only [List.length_nil, List.length_cons] at hl hl2; omega
    | cons y ys => cases ys with
     | nil =>
      rw [hrw] at hc
      obtain ⟨z, hz, hz2⟩ := hc.one_inv
      refine ⟨z, ?_, hz2⟩
      show D.one (pC fl y) = _
      rw [show pC fl y = z from (List.cons.inj hz).1]
     | cons y2 ys => rw [hrw] at hl2; simp only [List.length_nil, List.length_cons] at hl hl2; omega
   | cons c2 r =>
    intro hc hl hl2
    cases hrw : e.row x with
    | nil => rw [hrw] at hl2; simp only [List.length_nil, List.length_cons] at hl hl2; omega
    | cons y ys => cases ys with
     | nil => rw [hrw] at hl2; simp only [List.length_nil, List.length_cons] at hl hl2; omega
     | cons y2 ys => rw [hrw] at hc; exact ⟨_, rfl, hc⟩
theorem kds_rel {B : BK} {fr fl : Bool} (hf : fr = true → fl = true) : ∀ (ts : List TyD) (x : vals ts), RTs B V (kdsOf fr ts x) ((tdsOf ts x).map (unview fl))
 | [], _ => rfl
 | [t], x => ⟨_, _, rfl, mkD_rel hf t x, rfl⟩
 | t :: t' :: r, x => ⟨_, _, rfl, mkD_rel hf t x.1, kds_rel hf (t' :: r) x.2⟩
theorem kds_sc (N : Nat) (fr : Bool) : ∀ (ts : List TyD) (x : vals ts), ∀ y ∈ kdsOf fr ts x, Scs N y.2
 | [], _ => fun y hy => by simp [kdsOf] at hy
 | [t], x => fun y hy => by rw [List.mem_singleton.1 (show y ∈ [kdOf fr t x] from hy)]; exact kcells_sc N fr t.2 x
 | t :: t' :: r, x => fun y hy => by
  rcases List.mem_cons.1 (show y ∈ kdOf fr t x.1 :: kdsOf fr (t' :: r) x.2 from hy) with rfl | hy
  ·exact kcells_sc N fr t.2 x.1
  ·exact kds_sc N fr (t' :: r) x.2 y hy
end
end K
end Ev
end Go.Proofs.Ytlkcneneagifoaa
end
section
namespace Go.Proofs.Ytlkcneneagifoaa
namespace Ev
namespace K
open Go Go.RowKit
set_option linter.unusedVariables false
set_option linter.unusedSimpArgs false
def Vl.set (V : Vl) (nid k tag : Nat) (bo : Bool) : Vl := ⟨fun q => if q = nid then k else V.id q, fun q => if q = tag then bo else V.bo q⟩
theorem Vl.set_agree {N nid tag k : Nat} {bo : Bool} {V : Vl} (h1 : N ≤ nid) (h2 : N ≤ tag) : Agree N V (V.set nid k tag bo) := fun q hq => ⟨if_neg (by omega), if_neg (by omega)⟩
theorem Vl.set_id {nid tag k : Nat} {bo : Bool} {V : Vl} : (V.set nid k tag bo).id nid = k := if_pos rfl
theorem Vl.set_bo {nid tag k : Nat} {bo : Bool} {V : Vl} : (V.set nid k tag bo).bo tag = bo := if_pos rfl
def Be (F : KF) (ks : KS) (nid : Nat) (e : KE) : BK := getB F { ks with bl := blE e nid ks.bl }
def KB.like (b0 b : KB) : Prop :=
 match b with
 | .rows _ _ l => ∃ e0 n0 l0, b0 = .rows e0 n0 l0 ∧ l0.length = l.length
 | .mrows _ l => ∃ e0 l0, b0 = .mrows e0 l0 ∧ l0.length = l.length
 | _ => True
structure Real (B' : BK) (V' V : Vl) (ks : KS) (k : Nat) (e : KE) (u : List (Nat × Blk)) : Prop where
 real : ∃ uo un, u = uo ++ un ∧
  (match e.upd with
   | none => uo = []
   | some (p, b) => (∃ x, uo = [(V.id p, x)] ∧ BlkIs B' V' x b ∧ ∀ b0, look ks.bl p = some b0 → b0.there) ∨ (uo = [] ∧ ¬ b.there ∧ ∀ b0, look ks.bl p = some b0 → ¬ b0.there)) ∧
  (match e.new with
   | none => un = []
   | some b => (∃ x, un = [(k, x)] ∧ BlkIs B' V' x b ∧ b.there) ∨ (un = [] ∧ ¬ b.there))
structure StepOk (E : Env) (n : Nat) (F : KF) (ks : KS) (V : Vl) (f : Nat → D) (h : Heap) (M tag nid : Nat) (op : Op) (e : KE) : Prop where
 upd : ∀ p b, e.upd = some (p, b) → ∃ b0, look ks.bl p = some b0 ∧ b0 ≠ .dead ∧ ScB ks.nx b ∧ b0.like b
 new : ∀ b, e.new = some b → ScB ks.nx b ∧ b ≠ .dead
 sc : ScD M (normD tag e.v)
 run : ∃ bo, ∀ k, ∃ v u, stepG E (cpR E n) none k op (slots (tab F.nt f)) h = some ⟨v, u⟩ ∧ RD (Be F ks nid e) (V.set nid k tag bo) (normD tag e.v) v ∧ Real (Be F ks nid e) (V.set nid k tag bo) V ks k e u
def EqOk (P : Program) (ty : TypeId) (kinds : List IntKind) : Prop := ∀ (x y : Operand) (l : List (Int × Int)), l.length = kinds.length →
 pureOf P (do eqGuard .eql ty x y (.agg ((kinds.zip l).map fun z => Value.int z.1 z.2.1).toArray) (.agg ((kinds.zip l).map fun z => Value.int z.1 z.2.2).toArray); binOp .eql ty (.agg ((kinds.zip l).map fun z => Value.int z.1 z.2.1).toArray) (.agg ((kinds.zip l).map fun z => Value.int z.1 z.2.2).toArray)) = some (.bool (@decide (eqP l) (eqD l))) ∧
 pureOf P (do eqGuard .neq ty x y (.agg ((kinds.zip l).map fun z => Value.int z.1 z.2.1).toArray) (.agg ((kinds.zip l).map fun z => Value.int z.1 z.2.2).toArray); binOp .neq ty (.agg ((kinds.zip l).map fun z => Value.int z.1 z.2.1).toArray) (.agg ((kinds.zip l).map fun z => Value.int z.1 z.2.2).toArray)) = some (.bool (!(@decide (eqP l) (eqD l))))
def OutRuns (E : Env) (n : Nat) (k : FuncId) (vs : List TD) : (o : OutK) → o.val → Prop
 | .data true ts, x => RunsP E n k vs (.fresh, tdsOf ts x)
 | .data false ts, x => RunsX E n k vs (tdsOf ts x)
 | .own e, l => RunsP E n k vs (.own, [.one (.s true e.size (l.map e.row))])
 | .mown e, l => RunsP E n k vs (resM e.size e.row l)
 | .gown e, s => RunsP E n k vs (bif s.nn then .own else .fresh, [.one (.s s.nn s.sz (s.l.map e.row))])
def EntryOk (E : Env) (en : Entry) : Prop := ∀ m a out, en.f a = some out → OutRuns E (m + en.d) en.k (tdsOf en.ins a) en.out out
structure GOk (G : KG) (E : Env) (D : Nat) : Prop where
 ok : E.Ok
 ti : ∀ t i, look G.ti t = some i → E.ti t = some i
 eqs : ∀ ty kinds, look G.eqs ty = some kinds → EqOk E.P ty kinds
 fns : ∀ en ∈ G.fns, en.d ≤ D ∧ EntryOk E en
 fi : ∀ k f, look G.fi k = some f → E.fn k = some f ∧ E.ax k = some fun _ => none
section
variable {E : Env} {n : Nat} {F : KF} {ks : KS} {V : Vl} {f : Nat → D} {h : Heap} {M tag nid : Nat} {op : Op} {G : KG} {D0 : Nat}
theorem be_none {nid : Nat} {v : KD} : Be F ks nid ⟨v, none, none⟩ = getB F ks := rfl
theorem look_cons {α : Type} {q : Nat} {b : α} {l : List (Nat × α)} {p : Nat} : look ((q, b) :: l) p = if p = q then some b else look l p := by
 show cond (Nat.beq q p) (some b) (look l p) = _
 by_cases h : p = q
 ·subst h; rw [if_pos rfl, show Nat.beq p p = true from Nat.beq_refl p]; rfl
 ·rw [if_neg h]
  cases hb : Nat.beq q p with
  | true => exact absurd (Nat.eq_of_beq_eq_true hb).symm h
  | false => rfl
theorem getB_cons {q : Nat} {b : KB} {bl : List (Nat × KB)} {p : Nat} (hb : b ≠ .dead) : getB F { ks with bl := (q, b) :: bl } p = if p = q then some b else getB F { ks with bl := bl } p := by
 by_cases hp : p = q
 ·subst hp
  rw [if_pos rfl]
  unfold getB lookF
  simp only [look_cons, if_true]
  cases b with
  | dead => exact absurd rfl hb
  | _ => rfl
 ·rw [if_neg hp]
  unfold getB lookF
  simp only [look_cons, if_neg hp]
theorem getB_dead {q : Nat} {bl : List (Nat × KB)} {p : Nat} : getB F { ks with bl := (q, .dead) :: bl } p = if p = q then none else getB F { ks with bl := bl } p := by
 by_cases hp : p = q
 ·subst hp
  rw [if_pos rfl]
  unfold getB lookF
  simp only [look_cons, if_true]
 ·rw [if_neg hp]
  unfold getB lookF
  simp only [look_cons, if_neg hp]
theorem getB_of_look {p : Nat} {b : KB} (h : look ks.bl p = some b) (hb : b ≠ .dead) : getB F ks p = some b := by
 unfold getB lookF
 rw [h]
 cases b with
 | dead => exact absurd rfl hb
 | _ => rfl
theorem leB_eff (hn : ks.nx ≤ nid) {e : KE} (hu : ∀ p b, e.upd = some (p, b) → ∃ b0, look ks.bl p = some b0 ∧ b0 ≠ .dead ∧ b0.like b) (hnew : ∀ b, e.new = some b → b ≠ .dead) : LeB ks.nx (getB F ks) (Be F ks nid e) := by
 have h1 : LeB ks.nx (getB F ks) (getB F { ks with bl := blU e ks.bl }) := by
  unfold blU
  cases hx : e.upd with
  | none => exact LeB.refl _ _
  | some x =>
   obtain ⟨p0, b⟩ := x
   obtain ⟨b0, g1, g2, g3⟩ := hu p0 b hx
   have g1' := getB_of_look (F := F) g1 g2
   intro p hp
   by_cases hb : b = .dead
   ·subst hb
    simp only [getB_dead]
    by_cases hpp : p = p0
    ·simp [hpp]
    ·simp only [if_neg hpp]; exact ⟨fun e ne l h => ⟨e, ne, l, h, rfl⟩, fun e l h => ⟨e, l, h, rfl⟩⟩
   ·simp only [getB_cons hb]
    by_cases hpp : p = p0
    ·subst hpp
     simp only [if_pos rfl]
     refine ⟨fun e ne l h => ?_, fun e l h => ?_⟩
     ·have := Option.some.inj h
      subst this
      obtain ⟨e0, n0, l0, k1, k2⟩ := g3
      exact ⟨e0, n0, l0, by rw [g1', k1], k2⟩
     ·have := Option.some.inj h
      subst this
      obtain ⟨e0, l0, k1, k2⟩ := g3
      exact ⟨e0, l0, by rw [g1', k1], k2⟩
    ·simp only [if_neg hpp]; exact ⟨fun e ne l h => ⟨e, ne, l, h, rfl⟩, fun e l h => ⟨e, l, h, rfl⟩⟩
 unfold Be blE
 cases hx : e.new with
 | none => exact h1
 | some b =>
  intro p hp
  simp only [getB_cons (hnew b hx), if_neg (show ¬ p = nid by omega)]
  exact h1 p hp
theorem normD_id {d : KD} (h : ∀ x, d ≠ .one (.bv x)) : normD tag d = d := by
 unfold normD
 split
 ·exact absurd rfl (h _)
 ·rfl
theorem ok_pure {d : KD} {v : D} (ht : ks.nx ≤ tag) (hn : ks.nx ≤ nid) (htM : tag < M) (hv : ∀ k, stepG E (cpR E n) none k op (slots (tab F.nt f)) h = some ⟨v, []⟩) (hs : ScD ks.nx d) (hd : RD (getB F ks) V d v) : StepOk E n F ks V f h M tag nid op ⟨d, none, none⟩ := by
 have hM : ks.nx ≤ M := by omega
 refine ⟨fun p b hb => by simp at hb, fun b hb => by simp at hb, ?_, ?_⟩
 ·unfold normD
  split
  ·exact htM
  ·exact hs.mono hM
 ·refine ⟨match d with
   | .one (.bv x) => x
   | _ => false, fun k => ⟨v, [], hv k, ?_, ⟨[], [], rfl, rfl, rfl⟩⟩⟩
  rw [be_none]
  by_cases hb : ∃ x, d = .one (.bv x)
  ·obtain ⟨x, rfl⟩ := hb
   obtain ⟨c, rfl, hc⟩ := hd
   refine ⟨_, rfl, ?_, ?_⟩
   ·rw [Vl.set_bo]; exact hc
   ·rw [Vl.set_bo]; cases x <;> rfl
  ·rw [normD_id (fun x hx => hb ⟨x, hx⟩)]
   exact hd.mono hs (LeB.refl _ _) (Vl.set_agree hn ht)
theorem ok_truth {P : Prop} {d : Decidable P} {b : Bool} (ht : ks.nx ≤ tag) (hn : ks.nx ≤ nid) (htM : tag < M) (hv : ∀ k, stepG E (cpR E n) none k op (slots (tab F.nt f)) h = some ⟨bD b, []⟩) (hb : b = @decide P d) : StepOk E n F ks V f h M tag nid op ⟨.one (.p tag P d), none, none⟩ := by
 refine ⟨fun p b hb => by simp at hb, fun b hb => by simp at hb, htM, b, fun k => ⟨_, [], hv k, ⟨_, rfl, ?_, ?_⟩, ⟨[], [], rfl, rfl, rfl⟩⟩⟩
 ·rw [Vl.set_bo]
 ·rw [Vl.set_bo]; exact hb
theorem ok_new {d : KD} {b : KB} (hM : ks.nx ≤ M) (ht : ks.nx ≤ tag) (hn : ks.nx ≤ nid) (hb : ks.nx ≤ nid → ScB ks.nx b ∧ b ≠ .dead) (hd : ScD M d) (hnb : ∀ x, d ≠ .one (.bv x))
  (hv : ∀ k, (b.there ∧ ∃ v x, stepG E (cpR E n) none k op (slots (tab F.nt f)) h = some ⟨v, [(k, x)]⟩ ∧ RD (Be F ks nid ⟨d, none, some b⟩) (V.set nid k tag false) d v ∧ BlkIs (Be F ks nid ⟨d, none, some b⟩) (V.set nid k tag false) x b) ∨ (¬ b.there ∧ ∃ v, stepG E (cpR E n) none k op (slots (tab F.nt f)) h = some ⟨v, []⟩ ∧ RD (Be F ks nid ⟨d, none, some b⟩) (V.set nid k tag false) d v)) : StepOk E n F ks V f h M tag nid op ⟨d, none, some b⟩ := by
 refine ⟨fun p b hb => by simp at hb, fun b' hb' => by simp at hb'; subst hb'; exact hb hn, by rw [normD_id hnb]; exact hd, false, fun k => ?_⟩
 rcases hv k with ⟨h0, v, x, h1, h2, h3⟩ | ⟨h0, v, h1, h2⟩
 ·exact ⟨v, _, h1, by rw [normD_id hnb]; exact h2, ⟨[], [(k, x)], rfl, rfl, .inl ⟨x, rfl, h3, h0⟩⟩⟩
 ·exact ⟨v, _, h1, by rw [normD_id hnb]; exact h2, ⟨[], [], rfl, rfl, .inr ⟨rfl, h0⟩⟩⟩
theorem ok_upd {d : KD} {v : D} {p : Nat} {b0 b : KB} {x : Blk} (ht : ks.nx ≤ tag) (hn : ks.nx ≤ nid) (hM : ks.nx ≤ M) (hp : look ks.bl p = some b0) (h0 : b0 ≠ .dead) (hth : b0.there) (hsc : ScB ks.nx b) (hl : b0.like b) (hd : ScD ks.nx d) (hnb : ∀ x, d ≠ .one (.bv x))
  (hv : ∀ k, stepG E (cpR E n) none k op (slots (tab F.nt f)) h = some ⟨v, [(V.id p, x)]⟩) (hrd : RD (getB F ks) V d v) (hx : BlkIs (getB F ks) V x b) : StepOk E n F ks V f h M tag nid op ⟨d, some (p, b), none⟩ := by
 have hle : LeB ks.nx (getB F ks) (Be F ks nid ⟨d, some (p, b), none⟩) := leB_eff hn (fun p' b' hb' => by simp at hb'; obtain ⟨rfl, rfl⟩ := hb'; exact ⟨b0, hp, h0, hl⟩) (fun b hb => by simp at hb)
 refine ⟨fun p' b' hb' => by simp at hb'; obtain ⟨rfl, rfl⟩ := hb'; exact ⟨b0, hp, h0, hsc, hl⟩, fun b' hb' => by simp at hb', by rw [normD_id hnb]; exact hd.mono hM, false, fun k => ⟨v, _, hv k, by rw [normD_id hnb]; exact hrd.mono hd hle (Vl.set_agree hn ht), ⟨[(V.id p, x)], [], rfl, .inl ⟨x, rfl, ?_, fun b1 hb1 => by rw [hp] at hb1; cases hb1; exact hth⟩, rfl⟩⟩⟩
 cases b with
 | box cs => obtain ⟨sz, cs', g1, g2⟩ := hx; exact ⟨sz, cs', g1, g2.mono hsc hle (Vl.set_agree hn ht)⟩
 | rows e ne l => exact hx
 | mrows e l => exact hx
 | dead => exact hx
theorem sz_some (hG : GOk G E D0) {t : TypeId} {z : Nat × Bool} (h : szOf G.ti t = some z) : sizeAt E.ti t = some z := by
 unfold szOf at h
 split at h
 ·rename_i i hi
  unfold sizeAt
  rw [hG.ti _ _ hi]; exact h
 ·simp at h
theorem fd_some (hG : GOk G E D0) {t : TypeId} {m : Nat} {z : Nat × Nat × Bool} (h : fdOf G.ti t m = some z) : fieldAt E.ti t m = some z := by
 unfold fdOf at h
 split at h
 ·rename_i i hi
  split at h
  ·rename_i fd hfd
   split at h
   ·rename_i ft hft
    unfold fieldAt
    rw [hG.ti _ _ hi]
    simp only [Option.bind_some, hfd, hG.ti _ _ hft]
    exact h
   ·simp at h
  ·simp at h
 ·simp at h
theorem elem_some (hG : GOk G E D0) {ty te z : Nat} {e : Ty} (h : G.elem ty = some (te, e, z)) : ∃ t i2, E.ti ty = some t ∧ elemOf t = some te ∧ E.ti te = some i2 ∧ i2.size = z ∧ look G.ti te = some i2 ∧ elemAt E.ti ty = some z ∧ t.desc = .slice te := by
 unfold KG.elem at h
 split at h
 ·rename_i t ht
  split at h
  ·rename_i e1 he1
   split at h
   ·rename_i i2 hi2
    simp only [Option.map_eq_some_iff, Prod.mk.injEq] at h
    obtain ⟨x, _, rfl, rfl, rfl⟩ := h
    refine ⟨t, i2, hG.ti _ _ ht, he1, hG.ti _ _ hi2, rfl, hi2, ?_, ?_⟩
    ·unfold elemAt
     rw [hG.ti _ _ ht]
     simp only [Option.bind_some, he1, hG.ti _ _ hi2]
    ·unfold elemOf at he1
     split at he1
     ·rename_i e2 hd; rw [hd]; cases he1; rfl
     ·simp at he1
   ·simp at h
  ·simp at h
 ·simp at h
theorem atL_ne {α : Type} {l : List α} {i : Int} {y : α} (h : atL l i = some y) : l ≠ [] := by
 obtain ⟨_, h2⟩ := atL_some h
 intro he
 rw [he] at h2
 simp at h2
theorem rowC_len (e : Ty) (x : e.val) : (rowC e.row x).length = e.size := by
 unfold rowC
 rw [List.length_map, row_len]
theorem row_get {e : Ty} {l : List e.val} {i : Int} {y : e.val} (h : atL l i = some y) : 0 ≤ i ∧ (l.map (rowC e.row))[i.toNat]? = some ((e.row y).map (pC true)) := by
 obtain ⟨h1, h2⟩ := atL_some h
 exact ⟨h1, map_get h2⟩
end
end K
end Ev
end Go.Proofs.Ytlkcneneagifoaa
end
section
namespace Go.Proofs.Ytlkcneneagifoaa
namespace Ev
namespace K
open Go Go.RowKit
set_option linter.unusedVariables false
set_option linter.unusedSimpArgs false
section
variable {E : Env} {n : Nat} {F : KF} {ks : KS} {V : Vl} {f : Nat → D} {h : Heap} {M tag nid : Nat} {op : Op} {G : KG} {D0 : Nat} {R : Type} {κ : KE → Option R} {r : R}
theorem kCs_some {B : BK} {N : Nat} {d : KD} {cs : List KC} {d' : D} (hk : kCs d = some cs) (hs : ScD N d) (hd : RD B V d d') : ∃ cs', dcells d' = some cs' ∧ RCs B V cs cs' ∧ Scs N cs := by
 cases d with
 | one c =>
  have := Option.some.inj (show some [c] = some cs from hk)
  subst this
  obtain ⟨c', rfl, hc⟩ := hd
  exact ⟨[c'], rfl, .one hc, fun x hx => by rw [List.mem_singleton.1 hx]; exact hs⟩
 | agg l =>
  have := Option.some.inj (show some l = some cs from hk)
  subst this
  obtain ⟨c', rfl, hc⟩ := hd
  exact ⟨c', rfl, hc, hs⟩
 | tup ts => simp [kCs] at hk
theorem kOf_some {B : BK} {ag : Bool} {cs : List KC} {cs' : List C} {d : KD} {N : Nat} (hk : kOf ag cs = some d) (hs : Scs N cs) (hr : RCs B V cs cs') : ∃ d', ofCells ag cs' = some d' ∧ RD B V d d' ∧ ScD N d := by
 unfold kOf at hk
 cases ag with
 | true =>
  have := Option.some.inj (by simpa using hk)
  subst this
  exact ⟨.agg cs', rfl, ⟨_, rfl, hr⟩, hs⟩
 | false =>
  cases cs with
  | nil => simp at hk
  | cons c l => cases l with
   | nil =>
    have := Option.some.inj (by simpa using hk)
    subst this
    obtain ⟨y, rfl, hy⟩ := hr.one_inv
    exact ⟨.one y, rfl, ⟨_, rfl, hy⟩, hs c (by simp)⟩
   | cons c2 l => simp at hk
theorem set_map {e : Ty} {l : List e.val} {i : Nat} {y : e.val} : (l.map (rowC e.row)).set i ((e.row y).map (pC true)) = (l.set i y).map (rowC e.row) := map_set (r := rowC e.row)
theorem ok_load (hG : GOk G E D0) (hr : Rel F ks V f h) (ht : ks.nx ≤ tag) (hn : ks.nx ≤ nid) (htM : tag < M) {t : TypeId} {a : Operand} (hs : stepK G F ks tag nid (.load t a) κ = some r) : ∃ e, κ e = some r ∧ StepOk E n F ks V f h M tag nid (.load t a) e := by
 simp only [stepK] at hs
 split at hs
 ·rename_i z d hz hd
  have hz' := sz_some hG hz
  obtain ⟨d', h1, h2, h3⟩ := kO_ov hr hd
  cases d with
  | tup ts => simp [kLoad] at hs
  | agg cs => simp [kLoad] at hs
  | one c =>
   obtain ⟨c', rfl, hc⟩ := h3
   cases c with
   | ptr p j =>
    simp only [kLoad] at hs
    split at hs
    ·rename_i cs hp
     simp only [Option.bind_eq_some_iff] at hs
     obtain ⟨d2, ⟨cs2, g1, g2⟩, g3⟩ := hs
     obtain ⟨g4, g5, sz, cs', g6, g7⟩ := hr.bl p _ hp
     obtain ⟨c2, g8, g9⟩ := g7.cut g1
     obtain ⟨d3, k1, k2, k3⟩ := kOf_some g2 (scs_cut g5 g1) g9
     rw [show c' = _ from hc] at h1
     exact ⟨_, g3, ok_pure ht hn htM (fun k => q_loadP (L := [[(V.id p, sz, [cs'])]]) 0 h1 hz' rfl rfl g8 k1 h k (HB_one g6)) k3 k2⟩
    ·simp at hs
   | ip e fr x i y j =>
    simp only [kLoad, Option.bind_eq_some_iff] at hs
    obtain ⟨d2, ⟨cs2, g1, g2⟩, g3⟩ := hs
    obtain ⟨fl, e1, e2, e3⟩ := hc
    obtain ⟨c2, g8, g9⟩ := (kcells_rel (B := getB F ks) (V := V) e3 e y).cut g1
    obtain ⟨d3, k1, k2, k3⟩ := kOf_some g2 (scs_cut (kcells_sc ks.nx fr e y) g1) g9
    rw [e1] at h1
    exact ⟨_, g3, ok_pure ht hn htM (fun k => q_loadI (L := []) h1 hz' (map_get e2) g8 k1 h k HB_nil) k3 k2⟩
   | pe p i j =>
    simp only [kLoad] at hs
    rw [hc.2] at h1
    split at hs
    ·rename_i e ne l hp
     simp only [Option.bind_eq_some_iff] at hs
     obtain ⟨y, g0, d2, ⟨cs2, g1, g2⟩, g3⟩ := hs
     obtain ⟨g4, g5, g6, _⟩ := hr.bl p _ hp
     obtain ⟨c2, g8, g9⟩ := (kcells_rel (B := getB F ks) (V := V) (fun _ => rfl) e y).cut g1
     obtain ⟨d3, k1, k2, k3⟩ := kOf_some g2 (scs_cut (kcells_sc ks.nx true e y) g1) g9
     exact ⟨_, g3, ok_pure ht hn htM (fun k => q_loadP (L := [[(V.id p, _, _)]]) 0 h1 hz' rfl (row_get g0).2 g8 k1 h k (HB_one g6)) k3 k2⟩
    ·rename_i e l hp
     simp only [Option.bind_eq_some_iff] at hs
     obtain ⟨y, g0, d2, ⟨cs2, g1, g2⟩, g3⟩ := hs
     obtain ⟨g4, g5, g6⟩ := hr.bl p _ hp
     have g6 := g6 (atL_ne g0)
     obtain ⟨c2, g8, g9⟩ := (kcells_rel (B := getB F ks) (V := V) (fun _ => rfl) e y).cut g1
     obtain ⟨d3, k1, k2, k3⟩ := kOf_some g2 (scs_cut (kcells_sc ks.nx true e y) g1) g9
     exact ⟨_, g3, ok_pure ht hn htM (fun k => q_loadP (L := [[(V.id p, _, _)]]) 0 h1 hz' rfl (row_get g0).2 g8 k1 h k (HB_one g6)) k3 k2⟩
    ·simp at hs
   | _ => simp [kLoad] at hs
 ·simp at hs
theorem ok_store (hG : GOk G E D0) (hr : Rel F ks V f h) (ht : ks.nx ≤ tag) (hn : ks.nx ≤ nid) (htM : tag < M) {t : TypeId} {a x : Operand} (hs : stepK G F ks tag nid (.store t a x) κ = some r) : ∃ e, κ e = some r ∧ StepOk E n F ks V f h M tag nid (.store t a x) e := by
 have hM : ks.nx ≤ M := by omega
 simp only [stepK] at hs
 split at hs
 ·rename_i z d v hz hd hx
  have hz' := sz_some hG hz
  obtain ⟨d', h1, h2, h3⟩ := kO_ov hr hd
  obtain ⟨v', x1, x2, x3⟩ := kO_ov hr hx
  unfold kStore at hs
  split at hs
  ·simp at hs
  ·rename_i cs hcs
   obtain ⟨cs', y1, y2, y3⟩ := kCs_some hcs x2 x3
   split at hs
   ·rename_i hlen
    have hlen' : Nat.beq cs'.length z.1 = true := by rw [y2.len, hlen]; exact Nat.beq_refl _
    split at hs
    ·rename_i p j
     obtain ⟨c', rfl, hc⟩ := h3
     rw [show c' = _ from hc] at h1
     split at hs
     ·rename_i es hp
      simp only [Option.bind_eq_some_iff] at hs
      obtain ⟨es', g1, g2⟩ := hs
      obtain ⟨g4, g5, sz, es2, g6, g7⟩ := hr.bl p _ (getB_of_look hp (by simp))
      obtain ⟨e3, k1, k2⟩ := g7.patch y2 g1
      exact ⟨_, g2, ok_upd ht hn hM hp (by simp) trivial (scs_patch g5 y3 g1) trivial (by intro z hz; simp at hz) (by intro z hz; simp [kUn] at hz) (fun k => (q_store (L := [[(V.id p, sz, [es2])]]) 0 h1 x1 y1 hz' hlen' rfl rfl k1 rfl).2 h k (HB_one g6)) ⟨[], rfl, rfl⟩ ⟨sz, e3, rfl, k2⟩⟩
     ·simp at hs
    ·rename_i p i j
     obtain ⟨c', rfl, hc⟩ := h3
     rw [hc.2] at h1
     split at hs
     ·rename_i e ne l hp
      split at hs
      ·rename_i hfr
       simp only [Option.bind_eq_some_iff] at hs
       obtain ⟨y, g0, es', g1, y', g2, g3⟩ := hs
       obtain ⟨g4, g5, g6, g7⟩ := hr.bl p _ (getB_of_look hp (by simp))
       obtain ⟨e3, k1, k2⟩ := (kcells_rel (B := getB F ks) (V := V) (fun _ => rfl) e y).patch y2 g1
       have hfr2 : es'.all frC = true := by
        have hk : ∀ c ∈ kcells true e y, frC c = true := fr_kcells e y
        unfold Ev.patch at g1
        split at g1
        ·rw [← Option.some.inj g1, List.all_append, List.all_append, hfr]
         rw [List.all_eq_true.2 fun c hc => hk c (List.mem_of_mem_take hc), List.all_eq_true.2 fun c hc => hk c (List.mem_of_mem_drop hc)]; rfl
        ·simp at g1
       have := dec_plain g2 hfr2 k2
       subst this
       refine ⟨_, g3, ok_upd ht hn hM hp (by simp) trivial trivial ⟨_, _, _, rfl, by rw [List.length_set]⟩ (by intro z hz; simp at hz) (by intro z hz; simp [kUn] at hz) (fun k => (q_store (L := [[(V.id p, _, _)]]) 0 h1 x1 y1 hz' hlen' rfl (row_get g0).2 k1 rfl).2 h k (HB_one g6)) ⟨[], rfl, rfl⟩ ⟨by rw [set_map], fun hne => ?_⟩⟩
       have := g7 hne
       intro he
       exact this (by have := congrArg List.length he; rw [List.length_set] at this; exact List.length_eq_zero_iff.1 this)
      ·simp at hs
     ·rename_i e l hp
      split at hs
      ·rename_i hfr
       simp only [Option.bind_eq_some_iff] at hs
       obtain ⟨y, g0, es', g1, y', g2, g3⟩ := hs
       obtain ⟨g4, g5, g6⟩ := hr.bl p _ (getB_of_look hp (by simp))
       have hne := atL_ne g0
       have g6 := g6 hne
       obtain ⟨e3, k1, k2⟩ := (kcells_rel (B := getB F ks) (V := V) (fun _ => rfl) e y).patch y2 g1
       have hfr2 : es'.all frC = true := by
        have hk : ∀ c ∈ kcells true e y, frC c = true := fr_kcells e y
        unfold Ev.patch at g1
        split at g1
        ·rw [← Option.some.inj g1, List.all_append, List.all_append, hfr]
         rw [List.all_eq_true.2 fun c hc => hk c (List.mem_of_mem_take hc), List.all_eq_true.2 fun c hc => hk c (List.mem_of_mem_drop hc)]; rfl
        ·simp at g1
       have := dec_plain g2 hfr2 k2
       subst this
       exact ⟨_, g3, ok_upd ht hn hM hp (by simp) hne trivial ⟨_, _, rfl, by rw [List.length_set]⟩ (by intro z hz; simp at hz) (by intro z hz; simp [kUn] at hz) (fun k => (q_store (L := [[(V.id p, _, _)]]) 0 h1 x1 y1 hz' hlen' rfl (row_get g0).2 k1 rfl).2 h k (HB_one g6)) ⟨[], rfl, rfl⟩ (by rw [set_map]; rfl)⟩
      ·simp at hs
     ·simp at hs
    ·simp at hs
   ·simp at hs
 ·simp at hs
where
 fr_kcells : ∀ (e : Ty) (y : e.val), ∀ c ∈ kcells true e y, frC c = true
  | .I _, _ => fun c hc => by rw [List.mem_singleton.1 hc]; rfl
  | .B, _ => fun c hc => by rw [List.mem_singleton.1 hc]; rfl
  | .S _, _ => fun c hc => by rw [List.mem_singleton.1 hc]; rfl
  | .U, _ => fun c hc => by simp [kcells] at hc
  | .C a b, x => fun c hc => by
   rcases List.mem_append.1 (show c ∈ kcells true a x.1 ++ kcells true b x.2 from hc) with h | h
   ·exact fr_kcells a x.1 c h
   ·exact fr_kcells b x.2 c h
theorem ok_move (hr : Rel F ks V f h) (ht : ks.nx ≤ tag) (hn : ks.nx ≤ nid) (htM : tag < M) {x : Operand} {o : Op} (ho : o = .move x ∨ o = .assign x) (hs : (kO F ks x).bind (fun d => κ ⟨d, none, none⟩) = some r) : ∃ e, κ e = some r ∧ StepOk E n F ks V f h M tag nid o e := by
 simp only [Option.bind_eq_some_iff] at hs
 obtain ⟨d, hx, hk⟩ := hs
 obtain ⟨d', h1, h2, h3⟩ := kO_ov hr hx
 rcases ho with rfl | rfl
 ·exact ⟨_, hk, ok_pure ht hn htM (fun k => q_move (L := []) h1 h k HB_nil) h2 h3⟩
 ·exact ⟨_, hk, ok_pure ht hn htM (fun k => q_assign (L := []) h1 h k HB_nil) h2 h3⟩
theorem ok_alloc (hG : GOk G E D0) (ht : ks.nx ≤ tag) (hn : ks.nx ≤ nid) (htM : tag < M) (hnM : nid < M) {t : TypeId} (hs : stepK G F ks tag nid (.alloc t) κ = some r) : ∃ e, κ e = some r ∧ StepOk E n F ks V f h M tag nid (.alloc t) e := by
 simp only [stepK] at hs
 split at hs
 ·rename_i i hi
  refine ⟨_, hs, ok_new (by omega) ht hn (fun _ => ⟨kCs_sc _ _, by simp⟩) hnM (by simp) fun k => .inl ⟨trivial, _, _, q_alloc (L := []) (hG.ti _ _ hi) rfl rfl h k HB_nil, ⟨_, rfl, ?_⟩, _, _, rfl, kCs_rel _⟩⟩
  show C.ptr k 0 0 = .ptr _ 0 0
  rw [Vl.set_id]
 ·simp at hs
theorem ok_box (hG : GOk G E D0) (hr : Rel F ks V f h) (ht : ks.nx ≤ tag) (hn : ks.nx ≤ nid) (htM : tag < M) (hnM : nid < M) {t : TypeId} {x : Operand} (hs : stepK G F ks tag nid (.box t x) κ = some r) : ∃ e, κ e = some r ∧ StepOk E n F ks V f h M tag nid (.box t x) e := by
 simp only [stepK] at hs
 split at hs
 ·rename_i i cs hi hcs
  simp only [Option.bind_eq_some_iff] at hcs
  obtain ⟨d, hd, hcs⟩ := hcs
  obtain ⟨d', h1, h2, h3⟩ := kO_ov hr hd
  obtain ⟨cs', y1, y2, y3⟩ := kCs_some hcs h2 h3
  refine ⟨_, hs, ok_new (by omega) ht hn (fun _ => ⟨y3, by simp⟩) hnM (by simp) fun k => .inl ⟨trivial, _, _, q_box (L := []) (hG.ti _ _ hi) h1 y1 rfl h k HB_nil, ⟨_, rfl, ?_⟩, _, _, rfl, y2.mono y3 (leB_eff hn (fun p b hb => by simp at hb) (fun b hb => by simp at hb; subst hb; simp)) (Vl.set_agree hn ht)⟩⟩
  show C.ptr k 0 0 = .ptr _ 0 0
  rw [Vl.set_id]
 ·simp at hs
theorem ok_fieldAddr (hG : GOk G E D0) (hr : Rel F ks V f h) (ht : ks.nx ≤ tag) (hn : ks.nx ≤ nid) (htM : tag < M) {t : TypeId} {x : Operand} {m : Nat} (hs : stepK G F ks tag nid (.fieldAddr t x m) κ = some r) : ∃ e, κ e = some r ∧ StepOk E n F ks V f h M tag nid (.fieldAddr t x m) e := by
 simp only [stepK] at hs
 split at hs
 ·rename_i off sz ag p j hf hx
  obtain ⟨d', h1, h2, c', rfl, hc⟩ := kO_ov hr hx
  split at hs
  ·simp at hs
  ·rename_i hz
   rw [show c' = _ from hc] at h1
   exact ⟨_, hs, ok_pure ht hn htM (fun k => q_fieldP (L := []) h1 (fd_some hG hf) (by cases hb : Nat.beq sz 0 with | true => exact absurd (Nat.eq_of_beq_eq_true hb) hz | false => rfl) h k HB_nil) h2 ⟨_, rfl, rfl⟩⟩
 ·rename_i off sz ag p i j hf hx
  obtain ⟨d', h1, h2, c', rfl, hc⟩ := kO_ov hr hx
  split at hs
  ·simp at hs
  ·rename_i hz
   rw [hc.2] at h1
   exact ⟨_, hs, ok_pure ht hn htM (fun k => q_fieldP (L := []) h1 (fd_some hG hf) (by cases hb : Nat.beq sz 0 with | true => exact absurd (Nat.eq_of_beq_eq_true hb) hz | false => rfl) h k HB_nil) h2 ⟨_, rfl, hc.1, rfl⟩⟩
 ·rename_i off sz ag e fr s i y j hf hx
  obtain ⟨d', h1, h2, c', rfl, fl, hc, hc2, hc3⟩ := kO_ov hr hx
  split at hs
  ·simp at hs
  ·rename_i hz
   rw [hc] at h1
   exact ⟨_, hs, ok_pure ht hn htM (fun k => q_fieldI (L := []) h1 (fd_some hG hf) (by cases hb : Nat.beq sz 0 with | true => exact absurd (Nat.eq_of_beq_eq_true hb) hz | false => rfl) h k HB_nil) h2 ⟨_, rfl, fl, rfl, hc2, hc3⟩⟩
 ·simp at hs
theorem ok_field (hG : GOk G E D0) (hr : Rel F ks V f h) (ht : ks.nx ≤ tag) (hn : ks.nx ≤ nid) (htM : tag < M) {t : TypeId} {x : Operand} {m : Nat} (hs : stepK G F ks tag nid (.field t x m) κ = some r) : ∃ e, κ e = some r ∧ StepOk E n F ks V f h M tag nid (.field t x m) e := by
 simp only [stepK] at hs
 split at hs
 ·rename_i off sz ag cs hf hx
  simp only [Option.bind_eq_some_iff] at hs
  obtain ⟨d2, ⟨cs2, g1, g2⟩, g3⟩ := hs
  obtain ⟨d', h1, h2, cs', rfl, hc⟩ := kO_ov hr hx
  obtain ⟨c2, g8, g9⟩ := hc.cut g1
  obtain ⟨d3, k1, k2, k3⟩ := kOf_some g2 (scs_cut h2 g1) g9
  exact ⟨_, g3, ok_pure ht hn htM (fun k => q_fieldV (L := []) h1 (fd_some hG hf) g8 k1 h k HB_nil) k3 k2⟩
 ·simp at hs
theorem rts_get {B : BK} : ∀ {l : List (Bool × List KC)} {ds : List D} {i : Nat} {x : Bool × List KC}, RTs B V l ds → l[i]? = some x → ∃ d, ds[i]? = some d ∧ RD1 B V (mkD x) d
 | [], ds, i, x, hr, hx => by simp at hx
 | y :: l, ds, 0, x, ⟨d, s, hd, h1, h2⟩, hx => by simp at hx; subst hx hd; exact ⟨d, rfl, h1⟩
 | y :: l, ds, i + 1, x, ⟨d, s, hd, h1, h2⟩, hx => by subst hd; simpa using rts_get h2 (by simpa using hx)
theorem rd_of1 {B : BK} {k : KD} {d : D} (h : RD1 B V k d) : RD B V k d := by
 cases k with
 | one c => exact h
 | agg cs => exact h
 | tup ts => exact h.elim
theorem ok_extract (hr : Rel F ks V f h) (ht : ks.nx ≤ tag) (hn : ks.nx ≤ nid) (htM : tag < M) {x : Operand} {i : Nat} (hs : stepK G F ks tag nid (.extract x i) κ = some r) : ∃ e, κ e = some r ∧ StepOk E n F ks V f h M tag nid (.extract x i) e := by
 simp only [stepK] at hs
 split at hs
 ·rename_i ds hx
  simp only [Option.bind_eq_some_iff] at hs
  obtain ⟨d, g1, g2⟩ := hs
  obtain ⟨d', h1, h2, ds', rfl, hc⟩ := kO_ov hr hx
  obtain ⟨d3, k1, k2⟩ := rts_get hc g1
  exact ⟨_, g2, ok_pure ht hn htM (fun k => q_ext (L := []) h1 k1 h k HB_nil) (mkD_scs (h2 _ (List.mem_of_getElem? g1))) (rd_of1 k2)⟩
 ·simp at hs
theorem ok_unOp (hr : Rel F ks V f h) (ht : ks.nx ≤ tag) (hn : ks.nx ≤ nid) (htM : tag < M) {o : UnOp} {t : TypeId} {x : Operand} (hs : stepK G F ks tag nid (.unOp o t x) κ = some r) : ∃ e, κ e = some r ∧ StepOk E n F ks V f h M tag nid (.unOp o t x) e := by
 simp only [stepK] at hs
 split at hs
 ·rename_i v hx
  obtain ⟨d', h1, h2, c', rfl, hc⟩ := kO_ov hr hx
  rw [show c' = _ from hc] at h1
  exact ⟨_, hs, ok_pure ht hn htM (fun k => q_not (L := []) h1 h k HB_nil) trivial ⟨_, rfl, rfl⟩⟩
 ·rename_i tg P d hx
  obtain ⟨d', h1, h2, c', rfl, hc, hc2⟩ := kO_ov hr hx
  rw [hc] at h1
  refine ⟨_, hs, ok_truth ht hn htM (fun k => q_not (L := []) h1 h k HB_nil) ?_⟩
  rw [hc2]
  by_cases hP : P <;> simp [hP]
 ·rename_i v hx
  obtain ⟨d', h1, h2, c', rfl, hc⟩ := kO_ov hr hx
  rw [show c' = _ from hc] at h1
  refine ⟨_, hs, ok_truth ht hn htM (fun k => q_not (L := []) h1 h k HB_nil) ?_⟩
  cases v <;> rfl
 ·rename_i k v hx
  obtain ⟨d', h1, h2, c', rfl, hc⟩ := kO_ov hr hx
  rw [show c' = _ from hc] at h1
  exact ⟨_, hs, ok_pure ht hn htM (fun k => q_neg (L := []) h1 h k HB_nil) trivial ⟨_, rfl, rfl⟩⟩
 ·rename_i k v hx
  obtain ⟨d', h1, h2, c', rfl, hc⟩ := kO_ov hr hx
  rw [show c' = _ from hc] at h1
  exact ⟨_, hs, ok_pure ht hn htM (fun k => q_compl (L := []) h1 h k HB_nil) trivial ⟨_, rfl, rfl⟩⟩
 ·simp at hs
theorem conv_int {P : Program} {src dst : TypeId} {d1 : TypeDesc} {k k2 : IntKind} {a : Int} (h1 : P.underlying src = some d1) (h2 : P.underlying dst = some (.int k2)) : pureOf P (Go.convert src dst (.int k a)) = some (.int k2 (k2.wrap a)) := by
 unfold Go.convert
 simp only [pof_bind, pof_und h1, pof_und h2, Option.bind_some]
 cases d1 <;> rfl
theorem ok_convert (hG : GOk G E D0) (hr : Rel F ks V f h) (ht : ks.nx ≤ tag) (hn : ks.nx ≤ nid) (htM : tag < M) {s t : TypeId} {x : Operand} (hs : stepK G F ks tag nid (.convert s t x) κ = some r) : ∃ e, κ e = some r ∧ StepOk E n F ks V f h M tag nid (.convert s t x) e := by
 simp only [stepK] at hs
 split at hs
 ·rename_i si di k a h1 h2 hx
  split at hs
  ·rename_i k1 k2 g1 g2
   split at hs
   ·obtain ⟨d', e1, e2, c', rfl, hc⟩ := kO_ov hr hx
    rw [show c' = _ from hc] at e1
    have u1 := hG.ok.1.1 _ _ (hG.ti _ _ h1)
    have u2 := hG.ok.1.1 _ _ (hG.ti _ _ h2)
    rw [g2] at u2
    exact ⟨_, hs, ok_pure ht hn htM (fun k => q_conv (L := []) e1 (conv_int u1 u2) rfl h k HB_nil) trivial ⟨_, rfl, rfl⟩⟩
   ·simp at hs
  ·simp at hs
 ·simp at hs
end
end K
end Ev
end Go.Proofs.Ytlkcneneagifoaa
end
section
namespace Go.Proofs.Ytlkcneneagifoaa
namespace Ev
namespace K
open Go Go.RowKit
set_option linter.unusedVariables false
set_option linter.unusedSimpArgs false
section
variable {E : Env} {n : Nat} {F : KF} {ks : KS} {V : Vl} {f : Nat → D} {h : Heap} {M tag nid : Nat} {op : Op} {G : KG} {D0 : Nat} {R : Type} {κ : KE → Option R} {r : R}
theorem q_nilS {L : BL} {nt : Nat} {bop : BinOp} {ty sh e : TypeId} {x : Operand} {t : TI} {fr nn : Bool} {sz : Nat} {l : List (List T)} (hx : ov nt f x = some (.one (.p fr (.s nn sz l)))) (ht : E.ti ty = some t) (he : elemOf t = some e) : PS E n nt f L (.binOp .eql ty x (.const (.slice none 0 0)) sh) (bD (!nn)) ∧ PS E n nt f L (.binOp .neq ty x (.const (.slice none 0 0)) sh) (bD nn) := by
 constructor <;> intro h nid hb
 all_goals
  rw [s_bin, ov_eq, hx]
  show ((E.ti ty).bind fun t => (elemOf t).bind fun e => _) = _
  rw [ht]
  simp only [Option.bind_some, he]
  rfl
theorem q_nilO {L : BL} {nt : Nat} {bop : BinOp} {ty sh e : TypeId} {x : Operand} {t : TI} {k i m : Nat} (hx : ov nt f x = some (.one (.own k i m))) (ht : E.ti ty = some t) (he : elemOf t = some e) : PS E n nt f L (.binOp .eql ty x (.const (.slice none 0 0)) sh) (bD false) ∧ PS E n nt f L (.binOp .neq ty x (.const (.slice none 0 0)) sh) (bD true) := by
 constructor <;> intro h nid hb
 all_goals
  rw [s_bin, ov_eq, hx]
  show ((E.ti ty).bind fun t => (elemOf t).bind fun e => _) = _
  rw [ht]
  simp only [Option.bind_some, he]
  rfl
theorem isNil_eq {y : Operand} (h : isNilC y = true) : y = .const (.slice none 0 0) := by
 unfold isNilC at h
 split at h
 ·rfl
 ·simp at h
theorem zipN_some {B : BK} : ∀ {kinds : List IntKind} {cs ds : List KC} {l : List (Int × Int)} {cs' ds' : List C}, zipN kinds cs ds = some l → RCs B V cs cs' → RCs B V ds ds' → plainAll cs' = some ((kinds.zip l).map fun z => Value.int z.1 z.2.1) ∧ plainAll ds' = some ((kinds.zip l).map fun z => Value.int z.1 z.2.2) ∧ l.length = kinds.length
 | [], [], [], l, cs', ds', hz, hc, hd => by
  have := Option.some.inj (show some [] = some l from hz)
  subst this
  rw [show cs' = [] from hc, show ds' = [] from hd]
  exact ⟨rfl, rfl, rfl⟩
 | k :: ks, .n k1 x :: r, .n k2 y :: s, l, cs', ds', hz, ⟨c, c2, e1, h1, h2⟩, ⟨d, d2, e2, h3, h4⟩ => by
  simp only [zipN] at hz
  split at hz
  ·rename_i hk
   obtain ⟨rfl, rfl⟩ := hk
   rw [Option.map_eq_some_iff] at hz
   obtain ⟨l2, g1, rfl⟩ := hz
   obtain ⟨k1, k2, k3⟩ := zipN_some g1 h2 h4
   subst e1 e2
   rw [show c = _ from h1, show d = _ from h3]
   refine ⟨?_, ?_, by simp [k3]⟩
   ·show (do some ((← plainC (iC _ x)) :: (← plainAll c2))) = _
    rw [k1]; rfl
   ·show (do some ((← plainC (iC _ y)) :: (← plainAll d2))) = _
    rw [k2]; rfl
  ·simp at hz
 | [], c :: _, _, _, _, _, hz, _, _ => by simp [zipN] at hz
 | [], [], _ :: _, _, _, _, hz, _, _ => by simp [zipN] at hz
 | _ :: _, [], _, _, _, _, hz, _, _ => by simp [zipN] at hz
 | _ :: _, .n _ _ :: _, [], _, _, _, hz, _, _ => by simp [zipN] at hz
 | _ :: _, .n _ _ :: _, .b _ :: _, _, _, _, hz, _, _ => by simp [zipN] at hz
 | _ :: _, .n _ _ :: _, .p _ _ _ :: _, _, _, _, hz, _, _ => by simp [zipN] at hz
 | _ :: _, .n _ _ :: _, .bv _ :: _, _, _, _, hz, _, _ => by simp [zipN] at hz
 | _ :: _, .n _ _ :: _, .v _ :: _, _, _, _, hz, _, _ => by simp [zipN] at hz
 | _ :: _, .n _ _ :: _, .nil :: _, _, _, _, hz, _, _ => by simp [zipN] at hz
 | _ :: _, .n _ _ :: _, .s _ _ _ :: _, _, _, _, hz, _, _ => by simp [zipN] at hz
 | _ :: _, .n _ _ :: _, .o _ _ :: _, _, _, _, hz, _, _ => by simp [zipN] at hz
 | _ :: _, .n _ _ :: _, .m _ _ :: _, _, _, _, hz, _, _ => by simp [zipN] at hz
 | _ :: _, .n _ _ :: _, .ptr _ _ :: _, _, _, _, hz, _, _ => by simp [zipN] at hz
 | _ :: _, .n _ _ :: _, .pe _ _ _ :: _, _, _, _, hz, _, _ => by simp [zipN] at hz
 | _ :: _, .n _ _ :: _, .ip _ _ _ _ _ _ :: _, _, _, _, hz, _, _ => by simp [zipN] at hz
 | _ :: _, .n _ _ :: _, .clo _ _ :: _, _, _, _, hz, _, _ => by simp [zipN] at hz
 | _ :: _, .n _ _ :: _, .yld _ :: _, _, _, _, hz, _, _ => by simp [zipN] at hz
 | _ :: _, .b _ :: _, _, _, _, _, hz, _, _ => by simp [zipN] at hz
 | _ :: _, .p _ _ _ :: _, _, _, _, _, hz, _, _ => by simp [zipN] at hz
 | _ :: _, .bv _ :: _, _, _, _, _, hz, _, _ => by simp [zipN] at hz
 | _ :: _, .v _ :: _, _, _, _, _, hz, _, _ => by simp [zipN] at hz
 | _ :: _, .nil :: _, _, _, _, _, hz, _, _ => by simp [zipN] at hz
 | _ :: _, .s _ _ _ :: _, _, _, _, _, hz, _, _ => by simp [zipN] at hz
 | _ :: _, .o _ _ :: _, _, _, _, _, hz, _, _ => by simp [zipN] at hz
 | _ :: _, .m _ _ :: _, _, _, _, _, hz, _, _ => by simp [zipN] at hz
 | _ :: _, .ptr _ _ :: _, _, _, _, _, hz, _, _ => by simp [zipN] at hz
 | _ :: _, .pe _ _ _ :: _, _, _, _, _, hz, _, _ => by simp [zipN] at hz
 | _ :: _, .ip _ _ _ _ _ _ :: _, _, _, _, _, hz, _, _ => by simp [zipN] at hz
 | _ :: _, .clo _ _ :: _, _, _, _, _, hz, _, _ => by simp [zipN] at hz
 | _ :: _, .yld _ :: _, _, _, _, _, hz, _, _ => by simp [zipN] at hz
theorem dec_iff {P : Prop} {d : Decidable P} {b : Bool} (h : b = true ↔ P) : b = @decide P d := by
 by_cases hP : P
 ·rw [h.2 hP, decide_eq_true hP]
 ·cases b with
  | true => exact absurd (h.1 rfl) hP
  | false => rw [decide_eq_false hP]
theorem ok_int (ht : ks.nx ≤ tag) (hn : ks.nx ≤ nid) (htM : tag < M) {bop : BinOp} {ty sh : TypeId} {x y : Operand} {k k' : IntKind} {a b : Int} (hx : ov F.nt f x = some (.one (iC k a))) (hy : ov F.nt f y = some (.one (iC k' b))) (hs : kInt tag bop k k' a b κ = some r) : ∃ e, κ e = some r ∧ StepOk E n F ks V f h M tag nid (.binOp bop ty x y sh) e := by
 unfold kInt at hs
 split at hs
 ·simp only [Option.bind_eq_some_iff] at hs
  obtain ⟨z, h1, h2⟩ := hs
  exact ⟨_, h2, ok_pure ht hn htM (fun q => q_bin (L := []) hx hy (p_shl h1) rfl h q HB_nil) trivial ⟨_, rfl, rfl⟩⟩
 ·simp only [Option.bind_eq_some_iff] at hs
  obtain ⟨z, h1, h2⟩ := hs
  exact ⟨_, h2, ok_pure ht hn htM (fun q => q_bin (L := []) hx hy (p_shr h1) rfl h q HB_nil) trivial ⟨_, rfl, rfl⟩⟩
 ·split at hs
  ·rename_i hk
   subst hk
   split at hs
   ·exact ⟨_, hs, ok_pure ht hn htM (fun q => q_bin (L := []) hx hy (p_add _ _ _ _ _ _ _) rfl h q HB_nil) trivial ⟨_, rfl, rfl⟩⟩
   ·exact ⟨_, hs, ok_pure ht hn htM (fun q => q_bin (L := []) hx hy (p_sub _ _ _ _ _ _ _) rfl h q HB_nil) trivial ⟨_, rfl, rfl⟩⟩
   ·exact ⟨_, hs, ok_pure ht hn htM (fun q => q_bin (L := []) hx hy (p_mul _ _ _ _ _ _ _) rfl h q HB_nil) trivial ⟨_, rfl, rfl⟩⟩
   ·exact ⟨_, hs, ok_pure ht hn htM (fun q => q_bin (L := []) hx hy (p_and _ _ _ _ _ _ _) rfl h q HB_nil) trivial ⟨_, rfl, rfl⟩⟩
   ·exact ⟨_, hs, ok_pure ht hn htM (fun q => q_bin (L := []) hx hy (p_or _ _ _ _ _ _ _) rfl h q HB_nil) trivial ⟨_, rfl, rfl⟩⟩
   ·exact ⟨_, hs, ok_pure ht hn htM (fun q => q_bin (L := []) hx hy (p_xor _ _ _ _ _ _ _) rfl h q HB_nil) trivial ⟨_, rfl, rfl⟩⟩
   ·exact ⟨_, hs, ok_pure ht hn htM (fun q => q_bin (L := []) hx hy (p_andNot _ _ _ _ _ _ _) rfl h q HB_nil) trivial ⟨_, rfl, rfl⟩⟩
   ·simp only [Option.bind_eq_some_iff] at hs
    obtain ⟨z, h1, h2⟩ := hs
    exact ⟨_, h2, ok_pure ht hn htM (fun q => q_bin (L := []) hx hy (divO_p h1) rfl h q HB_nil) trivial ⟨_, rfl, rfl⟩⟩
   ·simp only [Option.bind_eq_some_iff] at hs
    obtain ⟨z, h1, h2⟩ := hs
    exact ⟨_, h2, ok_pure ht hn htM (fun q => q_bin (L := []) hx hy (modO_p h1) rfl h q HB_nil) trivial ⟨_, rfl, rfl⟩⟩
   ·exact ⟨_, hs, ok_truth ht hn htM (fun q => q_bin (L := []) hx hy (p_eql _ _ _ _ _ _ _) rfl h q HB_nil) (dec_iff (by simp))⟩
   ·exact ⟨_, hs, ok_truth ht hn htM (fun q => q_bin (L := []) hx hy (p_neq _ _ _ _ _ _ _) rfl h q HB_nil) (dec_iff (by simp))⟩
   ·exact ⟨_, hs, ok_truth ht hn htM (fun q => q_bin (L := []) hx hy (p_lss _ _ _ _ _ _ _) rfl h q HB_nil) (dec_iff (by simp))⟩
   ·exact ⟨_, hs, ok_truth ht hn htM (fun q => q_bin (L := []) hx hy (p_leq _ _ _ _ _ _ _) rfl h q HB_nil) (dec_iff (by simp))⟩
   ·exact ⟨_, hs, ok_truth ht hn htM (fun q => q_bin (L := []) hx hy (p_gtr _ _ _ _ _ _ _) rfl h q HB_nil) (dec_iff (by simp))⟩
   ·exact ⟨_, hs, ok_truth ht hn htM (fun q => q_bin (L := []) hx hy (p_geq _ _ _ _ _ _ _) rfl h q HB_nil) (dec_iff (by simp))⟩
   ·simp at hs
  ·simp at hs
theorem p_bools {P : Program} {t : TypeId} (hu : P.underlying t = some .bool) (x y : Operand) (a b : Bool) : pureOf P (do eqGuard .eql t x y (.bool a) (.bool b); binOp .eql t (.bool a) (.bool b)) = some (.bool (a == b)) ∧ pureOf P (do eqGuard .neq t x y (.bool a) (.bool b); binOp .neq t (.bool a) (.bool b)) = some (.bool (!(a == b))) := by
 have h0 : ∀ d, pureOf P (Op.equalIn (d + 1) t (.bool a) (.bool b)) = some (a == b) := fun d => by
  simp only [Op.equalIn, pof_bind, pof_und hu, Option.bind_some]
  rfl
 have h : pureOf P (Op.equalIn 10000 t (.bool a) (.bool b)) = some (a == b) := h0 9999
 constructor
 ·have h1 : pureOf P (eqGuard .eql t x y (.bool a) (.bool b)) = some () := rfl
  rw [pof_bind, h1]
  show pureOf P (binOp .eql t (.bool a) (.bool b)) = _
  have h2 : binOp .eql t (.bool a) (.bool b) = (do pure (.bool (← Op.equal t (.bool a) (.bool b)))) := rfl
  rw [h2, pof_bind]
  unfold Op.equal Op.maxDepth
  rw [h]; rfl
 ·have h1 : pureOf P (eqGuard .neq t x y (.bool a) (.bool b)) = some () := rfl
  rw [pof_bind, h1]
  show pureOf P (binOp .neq t (.bool a) (.bool b)) = _
  have h2 : binOp .neq t (.bool a) (.bool b) = (do pure (.bool (!(← Op.equal t (.bool a) (.bool b))))) := rfl
  rw [h2, pof_bind]
  unfold Op.equal Op.maxDepth
  rw [h]; rfl
theorem boolT_und (hG : GOk G E D0) {t : TypeId} (h : isBoolT G.ti t = true) : E.P.underlying t = some .bool := by
 unfold isBoolT at h
 split at h
 ·rename_i i hi
  have hu := hG.ok.ti.und _ _ (hG.ti _ _ hi)
  split at h
  ·rename_i hd
   rw [hu, hd]
  ·simp at h
 ·simp at h
theorem kBool_rc {B : BK} {V : Vl} {c : KC} {c' : C} {x : Bool} (h : kBool c = some x) (hr : RC B V c c') : c' = bC x := by
 cases c with
 | b v => cases h; exact hr
 | p tag P d => cases h; obtain ⟨h1, h2⟩ := hr; rw [h1, h2]
 | bv v => cases h; exact hr
 | _ => simp [kBool] at h
theorem ok_bin (hG : GOk G E D0) (hr : Rel F ks V f h) (ht : ks.nx ≤ tag) (hn : ks.nx ≤ nid) (htM : tag < M) {bop : BinOp} {ty sh : TypeId} {x y : Operand} (hs : stepK G F ks tag nid (.binOp bop ty x y sh) κ = some r) : ∃ e, κ e = some r ∧ StepOk E n F ks V f h M tag nid (.binOp bop ty x y sh) e := by
 simp only [stepK] at hs
 split at hs
 ·rename_i a b hx hy
  obtain ⟨a', x1, x2, x3⟩ := kO_ov hr hx
  obtain ⟨b', y1, y2, y3⟩ := kO_ov hr hy
  unfold kBin at hs
  split at hs
  ·obtain ⟨c1, rfl, e1⟩ := x3
   obtain ⟨c2, rfl, e2⟩ := y3
   rw [show c1 = _ from e1] at x1
   rw [show c2 = _ from e2] at y1
   exact ok_int ht hn htM x1 y1 hs
  ·split at hs
   ·rename_i z hn1 hel
    obtain ⟨te, e, zz⟩ := z
    obtain ⟨t, i2, g1, g2, _⟩ := elem_some hG hel
    have := isNil_eq hn1
    subst this
    obtain ⟨c1, rfl, fl, e1, e2⟩ := x3
    rw [e1] at x1
    simp only [Option.bind_eq_some_iff] at hs
    obtain ⟨c, k1, k2⟩ := hs
    unfold kNilEq at k1
    split at k1
    ·cases k1
     exact ⟨_, k2, ok_truth ht hn htM (fun q => (q_nilS (bop := .eql) (L := []) x1 g1 g2).1 h q HB_nil) (dec_iff (by simp))⟩
    ·cases k1
     exact ⟨_, k2, ok_truth ht hn htM (fun q => (q_nilS (bop := .eql) (L := []) x1 g1 g2).2 h q HB_nil) (dec_iff (by simp))⟩
    ·simp at k1
   ·simp at hs
  ·split at hs
   ·rename_i z e1 ne l hn1 hel hB
    obtain ⟨te, e, zz⟩ := z
    obtain ⟨t, i2, g1, g2, _⟩ := elem_some hG hel
    have := isNil_eq hn1
    subst this
    obtain ⟨c1, rfl, e1⟩ := x3
    rw [e1 _ _ _ hB] at x1
    simp only [Option.bind_eq_some_iff] at hs
    obtain ⟨c, k1, k2⟩ := hs
    unfold kNilB at k1
    split at k1
    ·cases k1
     exact ⟨_, k2, ok_pure ht hn htM (fun q => (q_nilO (bop := .eql) (L := []) x1 g1 g2).1 h q HB_nil) trivial ⟨_, rfl, rfl⟩⟩
    ·cases k1
     exact ⟨_, k2, ok_pure ht hn htM (fun q => (q_nilO (bop := .eql) (L := []) x1 g1 g2).2 h q HB_nil) trivial ⟨_, rfl, rfl⟩⟩
    ·simp at k1
   ·simp at hs
  ·split at hs
   ·rename_i z hn1 hel
    obtain ⟨te, e, zz⟩ := z
    obtain ⟨t, i2, g1, g2, _⟩ := elem_some hG hel
    have := isNil_eq hn1
    subst this
    obtain ⟨c1, rfl, e1⟩ := x3
    rw [show c1 = _ from e1] at x1
    simp only [Option.bind_eq_some_iff] at hs
    obtain ⟨c, k1, k2⟩ := hs
    unfold kNilB at k1
    split at k1
    ·cases k1
     exact ⟨_, k2, ok_pure ht hn htM (fun q => (q_nilS (bop := .eql) (L := []) x1 g1 g2).1 h q HB_nil) trivial ⟨_, rfl, rfl⟩⟩
    ·cases k1
     exact ⟨_, k2, ok_pure ht hn htM (fun q => (q_nilS (bop := .eql) (L := []) x1 g1 g2).2 h q HB_nil) trivial ⟨_, rfl, rfl⟩⟩
    ·simp at k1
   ·simp at hs
  ·rename_i cs ds
   split at hs
   ·rename_i kinds hk
    split at hs
    ·rename_i l hz
     obtain ⟨cs', rfl, e1⟩ := x3
     obtain ⟨ds', rfl, e2⟩ := y3
     obtain ⟨p1, p2, p3⟩ := zipN_some hz e1 e2
     obtain ⟨q1, q2⟩ := hG.eqs _ _ hk x y l p3
     have a1 : plain (.agg cs') = some (.agg ((kinds.zip l).map fun z => Value.int z.1 z.2.1).toArray) := by
      show (plainAll cs').bind (fun a => some (Value.agg a.toArray)) = _
      rw [p1]; rfl
     have a2 : plain (.agg ds') = some (.agg ((kinds.zip l).map fun z => Value.int z.1 z.2.2).toArray) := by
      show (plainAll ds').bind (fun a => some (Value.agg a.toArray)) = _
      rw [p2]; rfl
     simp only [Option.bind_eq_some_iff] at hs
     obtain ⟨c, k1, k2⟩ := hs
     unfold kNilEq at k1
     split at k1
     ·cases k1
      exact ⟨_, k2, ok_truth ht hn htM (fun q => q_binA (L := []) x1 y1 a1 a2 q1 rfl h q HB_nil) rfl⟩
     ·cases k1
      refine ⟨_, k2, ok_truth ht hn htM (fun q => q_binA (L := []) x1 y1 a1 a2 q2 rfl h q HB_nil) (dec_iff ?_)⟩
      have := @decide_eq_true_iff (eqP l) (eqD l)
      by_cases hp : eqP l
      ·simp [hp]
      ·simp [hp]
     ·simp at k1
    ·simp at hs
   ·simp at hs
  ·split at hs
   ·rename_i u v hT hu hv
    have hb := p_bools (boolT_und hG hT) x y u v
    obtain ⟨c1, rfl, e1⟩ := x3
    obtain ⟨c2, rfl, e2⟩ := y3
    rw [kBool_rc hu e1] at x1
    rw [kBool_rc hv e2] at y1
    simp only [Option.bind_eq_some_iff] at hs
    obtain ⟨c, k1, k2⟩ := hs
    unfold kNilEq at k1
    split at k1
    ·cases k1
     exact ⟨_, k2, ok_truth ht hn htM (fun q => q_binB (L := []) x1 y1 hb.1 rfl h q HB_nil) (dec_iff (by simp))⟩
    ·cases k1
     exact ⟨_, k2, ok_truth ht hn htM (fun q => q_binB (L := []) x1 y1 hb.2 rfl h q HB_nil) (dec_iff (by simp))⟩
    ·simp at k1
   ·simp at hs
  ·simp at hs
 ·simp at hs
end
end K
end Ev
end Go.Proofs.Ytlkcneneagifoaa
end
section
namespace Go.Proofs.Ytlkcneneagifoaa
namespace Ev
namespace K
open Go Go.RowKit
set_option linter.unusedVariables false
set_option linter.unusedSimpArgs false
section
variable {E : Env} {n : Nat} {F : KF} {ks : KS} {V : Vl} {f : Nat → D} {h : Heap} {M tag nid : Nat} {op : Op} {G : KG} {D0 : Nat} {R : Type} {κ : KE → Option R} {r : R}
theorem fill_rel {B : BK} {N : Nat} {pl : Nat → Option (Nat × Nat)} : ∀ {ps : List (Nat × KD)} {ps' : List (Nat × D)} {cs cs2 : List KC} {cs' : List C}, kFill pl cs ps = some cs2 → RCs B V cs cs' → Scs N cs → (∀ x ∈ ps, ScD N x.2) → ps'.map (·.1) = ps.map (·.1) → RDl B V (ps.map (·.2)) (ps'.map (·.2)) → ∃ cs3, fill pl cs' ps' = some cs3 ∧ RCs B V cs2 cs3 ∧ Scs N cs2
 | [], [], cs, cs2, cs', hk, hr, hs, hps, h1, h2 => by
  have := Option.some.inj (show some cs = some cs2 from hk)
  subst this
  exact ⟨cs', rfl, hr, hs⟩
 | [], y :: ps', cs, cs2, cs', hk, hr, hs, hps, h1, h2 => by simp at h1
 | x :: ps, [], cs, cs2, cs', hk, hr, hs, hps, h1, h2 => by simp at h1
 | (i, d) :: ps, (j, d') :: ps', cs, cs2, cs', hk, hr, hs, hps, h1, h2 => by
  simp only [List.map_cons, List.cons.injEq] at h1
  obtain ⟨rfl, h1⟩ := h1
  obtain ⟨d2, s, h3, h4, h5⟩ := h2
  simp only [List.map_cons, List.cons.injEq] at h3
  obtain ⟨rfl, rfl⟩ := h3
  simp only [kFill] at hk
  split at hk
  ·rename_i off size c hpl hc
   split at hk
   ·rename_i hlen
    simp only [Option.bind_eq_some_iff] at hk
    obtain ⟨c2, g1, g2⟩ := hk
    obtain ⟨c', e1, e2, e3⟩ := kCs_some hc (hps (j, d) (by simp)) h4
    obtain ⟨c3, k1, k2⟩ := hr.patch e2 g1
    obtain ⟨c4, k3, k4, k5⟩ := fill_rel g2 k2 (scs_patch hs e3 g1) (fun x hx => hps x (by simp [hx])) h1 h5
    refine ⟨c4, ?_, k4, k5⟩
    simp only [fill, Option.bind_eq_bind, hpl, Option.bind_some, e1]
    rw [if_pos (by rw [e2.len]; exact hlen), k1]
    exact k3
   ·simp at hk
  ·simp at hk
theorem seqP_mapM {α : Type} {g g' : α → Option (Nat × Nat)} (hg : ∀ a b, g a = some b → g' a = some b) : ∀ {l : List α} {r : List (Nat × Nat)}, kPlaces.seqP (l.map g) = some r → l.mapM g' = some r
 | [], r, hs => by
  have := Option.some.inj (show some [] = some r from hs)
  subst this; rfl
 | a :: l, r, hs => by
  simp only [List.map_cons] at hs
  cases hga : g a with
  | none => rw [hga] at hs; simp [kPlaces.seqP] at hs
  | some b =>
   rw [hga] at hs
   simp only [kPlaces.seqP, Option.map_eq_some_iff] at hs
   obtain ⟨r2, h1, rfl⟩ := hs
   rw [List.mapM_cons, hg a b hga, seqP_mapM hg h1]; rfl
theorem places_some (hG : GOk G E D0) {t : TypeId} {i : TI} {pl : Nat → Option (Nat × Nat)} (hi : look G.ti t = some i) (hp : kPlaces G.ti t = some pl) : places E.ti i = some pl := by
 unfold kPlaces at hp
 rw [hi] at hp
 simp only at hp
 unfold places
 split at hp
 ·rename_i fs hd
  rw [Option.map_eq_some_iff] at hp
  obtain ⟨l, h1, h2⟩ := hp
  rw [hd]
  simp only
  rw [seqP_mapM (g' := fun f => (E.ti f.type).map fun i => (f.offset, i.size)) (fun a b hab => by
   split at hab
   ·rename_i q hq
    rw [hG.ti _ _ hq]; exact hab
   ·simp at hab) h1]
  rw [Option.map_some, h2]
 ·rename_i m e hd
  rw [hd]
  simp only
  split at hp
  ·rename_i te hte
   rw [hG.ti _ _ hte, Option.map_some]; exact hp
  ·simp at hp
 ·simp at hp
theorem ok_build (hG : GOk G E D0) (hr : Rel F ks V f h) (ht : ks.nx ≤ tag) (hn : ks.nx ≤ nid) (htM : tag < M) {t : TypeId} {parts : Array (Nat × Operand)} (hs : stepK G F ks tag nid (.build t parts) κ = some r) : ∃ e, κ e = some r ∧ StepOk E n F ks V f h M tag nid (.build t parts) e := by
 simp only [stepK] at hs
 split at hs
 ·rename_i i pl ps hi hpl hps
  simp only [Option.bind_eq_some_iff] at hs
  obtain ⟨cs, g1, g2⟩ := hs
  obtain ⟨ps', e1, e2, e3, e4⟩ := kParts_ov hr hps
  obtain ⟨c3, k1, k2, k3⟩ := fill_rel g1 (kCs_rel i.zero) (kCs_sc ks.nx i.zero) e2 e3 e4
  exact ⟨_, g2, ok_pure ht hn htM (fun k => q_build (L := []) (hG.ti _ _ hi) e1 (places_some hG hi hpl) k1 h k HB_nil) k3 ⟨_, rfl, k2⟩⟩
 ·simp at hs
theorem zflat_eq {te : TI} (hz : te.zero.length = te.size) : ∀ len : Nat, zflat te len = (List.replicate len (te.zero.map zeroC)).flatten := by
 have hl : (zrow te).length = te.size := by unfold zrow; rw [List.length_map, hz]
 intro len
 unfold zflat
 refine List.ext_getElem? fun i => ?_
 induction len generalizing i with
 | zero => simp
 | succ m ih =>
  have e2 : (List.replicate (m + 1) (te.zero.map zeroC)).flatten = (zrow te) ++ (List.replicate m (te.zero.map zeroC)).flatten := by rw [List.replicate_succ, List.flatten_cons]; rfl
  rw [e2, List.getElem?_append, hl]
  by_cases hi : i < te.size
  ·rw [if_pos hi, List.getElem?_map, List.getElem?_range (by rw [Nat.succ_mul]; omega)]
   simp only [Option.map_some]
   rw [Nat.mod_eq_of_lt hi, List.getD_eq_getElem?_getD, List.getElem?_eq_getElem (by omega)]
   try rfl
  ·rw [if_neg hi, ← ih (i - te.size), List.getElem?_map, List.getElem?_map]
   by_cases h2 : i < (m + 1) * te.size
   ·have h3 : i - te.size < m * te.size := by rw [Nat.succ_mul] at h2; omega
    rw [List.getElem?_range h2, List.getElem?_range h3]
    simp only [Option.map_some]
    have : i % te.size = (i - te.size) % te.size := by
     conv => lhs; rw [show i = (i - te.size) + te.size by omega, Nat.add_mod_right]
    rw [this]
   ·have h3 : ¬ i - te.size < m * te.size := by rw [Nat.succ_mul] at h2; omega
    rw [List.getElem?_eq_none (by simpa using h2), List.getElem?_eq_none (by simpa using h3)]; try rfl
theorem rep_rel {B : BK} {k : List KC} {c : List C} (hr : RCs B V k c) : ∀ m : Nat, RCs B V (List.replicate m k).flatten (List.replicate m c).flatten
 | 0 => rfl
 | m + 1 => by
  rw [List.replicate_succ, List.replicate_succ, List.flatten_cons, List.flatten_cons]
  exact hr.append (rep_rel hr m)
theorem rep_sc {N : Nat} {k : List KC} (hs : Scs N k) (m : Nat) : Scs N (List.replicate m k).flatten := fun c hc => by
 obtain ⟨l, h1, h2⟩ := List.mem_flatten.1 hc
 rw [(List.mem_replicate.1 h1).2] at h2
 exact hs c h2
theorem rows_rel {B : BK} {e : Ty} {z : Nat} {cs : List KC} {cs' : List C} (hr : RCs B V cs cs') : ∀ (m i : Nat) {rs : List (List KC)} {l : List e.val}, kRows z cs m i = some rs → decRows e rs = some l → (List.range' i m).mapM (fun i => Ev.cut cs' (i * z) z) = some (l.map (rowC e.row))
 | 0, i, rs, l, h1, h2 => by
  have := Option.some.inj (show some [] = some rs from h1)
  subst this
  have := Option.some.inj (show some [] = some l from h2)
  subst this
  rfl
 | m + 1, i, rs, l, h1, h2 => by
  simp only [kRows, Option.bind_eq_some_iff] at h1
  obtain ⟨a, g1, l1, g2, g3⟩ := h1
  have := Option.some.inj g3
  subst this
  simp only [decRows] at h2
  split at h2
  ·rename_i hfr
   simp only [Option.bind_eq_some_iff] at h2
   obtain ⟨x, k1, l2, k2, k3⟩ := h2
   have := Option.some.inj k3
   subst this
   obtain ⟨c2, e1, e2⟩ := hr.cut g1
   have := dec_plain k1 hfr e2
   subst this
   rw [List.range'_succ, List.mapM_cons, e1, rows_rel hr m (i + 1) g2 k2]; rfl
  ·simp at h2
theorem kRows_len {z : Nat} {cs : List KC} : ∀ (m i : Nat) {rs : List (List KC)}, kRows z cs m i = some rs → rs.length = m
 | 0, i, rs, h1 => by
  have := Option.some.inj (show some [] = some rs from h1)
  subst this; rfl
 | m + 1, i, rs, h1 => by
  simp only [kRows, Option.bind_eq_some_iff] at h1
  obtain ⟨a, g1, l1, g2, g3⟩ := h1
  have := Option.some.inj g3
  subst this
  rw [List.length_cons, kRows_len m (i + 1) g2]
theorem decRows_len {e : Ty} : ∀ {rs : List (List KC)} {l : List e.val}, decRows e rs = some l → l.length = rs.length
 | [], l, h2 => by
  have := Option.some.inj (show some [] = some l from h2)
  subst this; rfl
 | c :: rs, l, h2 => by
  simp only [decRows] at h2
  split at h2
  ·simp only [Option.bind_eq_some_iff] at h2
   obtain ⟨x, k1, l2, k2, k3⟩ := h2
   have := Option.some.inj k3
   subst this
   rw [List.length_cons, List.length_cons, decRows_len k2]
  ·simp at h2
theorem ok_bslice (hG : GOk G E D0) (hr : Rel F ks V f h) (ht : ks.nx ≤ tag) (hn : ks.nx ≤ nid) (htM : tag < M) (hnM : nid < M) {t : TypeId} {len : Nat} {parts : Array (Nat × Operand)} (hs : stepK G F ks tag nid (.buildSlice t len parts) κ = some r) : ∃ e, κ e = some r ∧ StepOk E n F ks V f h M tag nid (.buildSlice t len parts) e := by
 simp only [stepK] at hs
 split at hs
 ·rename_i te e z ps hel hps
  obtain ⟨ti, i2, t1, t2, t3, t4, t5, t6, t7⟩ := elem_some hG hel
  rw [t5] at hs
  simp only at hs
  split at hs
  ·rename_i hz
   obtain ⟨hz1, hz2⟩ := hz
   simp only [Option.bind_eq_some_iff] at hs
   obtain ⟨cs, g1, rs, g2, l, g3, g4⟩ := hs
   obtain ⟨ps', e1, e2, e3, e4⟩ := kParts_ov hr hps
   obtain ⟨c3, k1, k2, k3⟩ := fill_rel g1 (rep_rel (kCs_rel i2.zero) len) (rep_sc (kCs_sc ks.nx i2.zero) len) e2 e3 e4
   rw [← zflat_eq (hG.ok.ti.zero _ _ t3).2.1] at k1
   have k4 := rows_rel k2 len 0 g2 g3
   rw [← List.range_eq_range'] at k4
   have h0 : l.length = len := (decRows_len g3).trans (kRows_len len 0 g2)
   refine ⟨_, g4, ok_new (by omega) ht hn (fun _ => ⟨trivial, by simp⟩) hnM (by simp) fun k => .inl ⟨trivial, _, _, q_bslice (L := []) t1 t2 t3 t4 e1 k1 k4 (Nat.ble_eq_true_of_le (by rw [Nat.mul_comm]; omega)) h k HB_nil, ⟨_, rfl, ?_⟩, ?_, ?_⟩⟩
   ·intro e' ne l' hl'
    unfold Be blE blU at hl'
    simp only [getB_cons (show KB.rows e (Nat.blt 0 len) l ≠ .dead by simp), if_true, Option.some.injEq, KB.rows.injEq] at hl'
    obtain ⟨rfl, rfl, hl'⟩ := hl'
    rw [← eq_of_heq hl', h0, Vl.set_id]
   ·rw [hz1]
   ·intro hb he
    rw [he] at h0
    have : (0 : Nat) < len := by simpa using hb
    simp at h0
    omega
  ·simp at hs
 ·simp at hs
theorem be_new_rows {e : Ty} {ne : Bool} {l : List e.val} {d : KD} {V : Vl} {k tag : Nat} {bo : Bool} {u : Option (Nat × KB)} : RC (Be F ks nid ⟨d, u, some (.rows e ne l)⟩) (V.set nid k tag bo) (.o e nid) (.own k 0 l.length) := by
 intro e' ne' l' hl'
 unfold Be blE at hl'
 simp only [getB_cons (show KB.rows e ne l ≠ .dead by simp), if_true, Option.some.injEq, KB.rows.injEq] at hl'
 obtain ⟨rfl, rfl, hl'⟩ := hl'
 rw [← eq_of_heq hl', Vl.set_id]
theorem be_new_mrows {e : Ty} {l : List e.val} {d : KD} {V : Vl} {k tag : Nat} {bo : Bool} {u : Option (Nat × KB)} : RC (Be F ks nid ⟨d, u, some (.mrows e l)⟩) (V.set nid k tag bo) (.m e nid) (moC l k) := by
 intro e' l' hl'
 unfold Be blE at hl'
 simp only [getB_cons (show KB.mrows e l ≠ .dead by simp), if_true, Option.some.injEq, KB.mrows.injEq] at hl'
 obtain ⟨rfl, hl'⟩ := hl'
 rw [← eq_of_heq hl', Vl.set_id]
theorem ok_makeSlice (hG : GOk G E D0) (hr : Rel F ks V f h) (ht : ks.nx ≤ tag) (hn : ks.nx ≤ nid) (htM : tag < M) (hnM : nid < M) {t : TypeId} {l c : Operand} (hs : stepK G F ks tag nid (.makeSlice t l c) κ = some r) : ∃ e, κ e = some r ∧ StepOk E n F ks V f h M tag nid (.makeSlice t l c) e := by
 simp only [stepK] at hs
 split at hs
 ·rename_i te e z ki i kj j hel hl hc
  obtain ⟨ti, i2, t1, t2, t3, t4, t5, t6, t7⟩ := elem_some hG hel
  rw [t5] at hs
  simp only at hs
  split at hs
  ·rename_i hz
   obtain ⟨hz1, hz2⟩ := hz
   simp only [Option.bind_eq_some_iff] at hs
   obtain ⟨u0, g0, u, g1, x, g2, g3⟩ := hs
   obtain ⟨b1, b2⟩ := lenOk_some g1
   have hcp := capOk_some g0
   obtain ⟨dl, l1, l2, c1, rfl, lc⟩ := kO_ov hr hl
   obtain ⟨dc, l3, l4, c2, rfl, lc2⟩ := kO_ov hr hc
   rw [show c1 = _ from lc] at l1
   rw [show c2 = _ from lc2] at l3
   have hrow : zrow i2 = rowC e.row x := by
    have hf : (i2.zero.map kC).all frC = true := List.all_eq_true.2 fun c hc => by
     obtain ⟨v, _, rfl⟩ := List.mem_map.1 hc
     unfold kC
     split <;> rfl
    exact dec_plain (B := noB) (V := V) g2 hf (kCs_rel i2.zero)
   refine ⟨_, g3, ok_new (by omega) ht hn (fun _ => ⟨trivial, by simp⟩) hnM (by simp) fun k => .inl ⟨trivial, _, _, q_mkcap (L := []) (r := rowC e.row) t1 t2 t3 l1 l3 b1 (by rcases hcp with hij | ⟨hij, _⟩ <;> omega) (by rcases hcp with hij | ⟨_, hij⟩; rw [← hij]; exact b2; exact hij) hrow t4 h k HB_nil, ⟨_, rfl, be_new_rows⟩, ?_, by simp⟩⟩
   rw [hz1]
  ·simp at hs
 ·simp at hs
theorem bound_some (hr : Rel F ks V f h) {o : Option Operand} {m : Nat} {i : Int} (hk : kBound F ks o ((m : Nat) : Int) = some i) (h0 : 0 ≤ i) : natOr (ov F.nt f) o m = some i.toNat := by
 cases o with
 | none =>
  have := Option.some.inj (show some ((m : Nat) : Int) = some i from hk)
  subst this
  exact no_none m
 | some x =>
  simp only [kBound] at hk
  split at hk
  ·rename_i k j hx
   have := Option.some.inj hk
   subst this
   obtain ⟨d, g1, g2, c, rfl, g3⟩ := kO_ov hr hx
   rw [show c = _ from g3] at g1
   exact no_some g1 h0 m
  ·simp at hk
theorem ok_slice (hG : GOk G E D0) (hr : Rel F ks V f h) (ht : ks.nx ≤ tag) (hn : ks.nx ≤ nid) (htM : tag < M) {t : TypeId} {x : Operand} {lo hi mx : Option Operand} (hs : stepK G F ks tag nid (.slice t x lo hi mx) κ = some r) : ∃ e, κ e = some r ∧ StepOk E n F ks V f h M tag nid (.slice t x lo hi mx) e := by
 simp only [stepK] at hs
 split at hs
 ·rename_i te e z e' fr s hnh hel hx
  obtain ⟨ti, i2, t1, t2, t3, t4, t5, t6, t7⟩ := elem_some hG hel
  split at hs
  ·rename_i i j m hi hj hm
   obtain ⟨hs, hcm⟩ := cutM_some hs
   simp only [Option.bind_eq_some_iff] at hs
   obtain ⟨s', g1, g2⟩ := hs
   obtain ⟨d, l1, l2, c, rfl, fl, lc, lc2⟩ := kO_ov hr hx
   rw [lc] at l1
   subst t4
   obtain ⟨⟨b1, b2, b3, b4⟩, _⟩ := cutS_some g1
   have hmm : j ≤ m ∧ m ≤ (s.l.length : Int) := by
    cases mx with
    | none => have := Option.some.inj (show some ((s.l.length : Nat) : Int) = some m from hm); omega
    | some z => exact hcm rfl
   exact ⟨_, g2, ok_pure ht hn htM (fun k => q_sliceM (L := []) (r := e'.row) g1 l1 t1 t2 t3 (bound_some hr (m := 0) hi b1) (bound_some hr hj (by omega)) (bound_some hr hm (by omega)) hnh (by omega) (by omega) h k HB_nil) trivial ⟨_, rfl, fl, rfl, lc2⟩⟩
  ·simp at hs
 ·simp at hs
theorem ok_indexAddr (hG : GOk G E D0) (hr : Rel F ks V f h) (ht : ks.nx ≤ tag) (hn : ks.nx ≤ nid) (htM : tag < M) {t : TypeId} {x ix : Operand} (hs : stepK G F ks tag nid (.indexAddr t x ix) κ = some r) : ∃ e, κ e = some r ∧ StepOk E n F ks V f h M tag nid (.indexAddr t x ix) e := by
 simp only [stepK] at hs
 split at hs
 ·rename_i e fr s k i hx hi
  obtain ⟨d, l1, l2, c, rfl, fl, lc, lc2⟩ := kO_ov hr hx
  obtain ⟨d2, l3, l4, c2, rfl, lc3⟩ := kO_ov hr hi
  rw [lc] at l1
  rw [show c2 = _ from lc3] at l3
  split at hs
  ·rename_i te e2 z hel
   obtain ⟨ti, i2, t1, t2, t3, t4, t5, t6, t7⟩ := elem_some hG hel
   simp only [Option.bind_eq_some_iff] at hs
   obtain ⟨y, g1, g2⟩ := hs
   obtain ⟨b1, b2, b3⟩ := atS_some g1
   subst b2
   exact ⟨_, g2, ok_pure ht hn htM (fun k => q_ixS (L := []) (r := e.row) l1 l3 b1 b3 t6 h k HB_nil) trivial ⟨_, rfl, fl, rfl, b3, lc2⟩⟩
  ·simp at hs
 ·rename_i e p k i hx hi
  obtain ⟨d, l1, l2, c, rfl, lc⟩ := kO_ov hr hx
  obtain ⟨d2, l3, l4, c2, rfl, lc3⟩ := kO_ov hr hi
  rw [show c2 = _ from lc3] at l3
  split at hs
  ·rename_i te e2 z e' ne l hel hB
   split at hs
   ·rename_i hz
    subst hz
    obtain ⟨ti, i2, t1, t2, t3, t4, t5, t6, t7⟩ := elem_some hG hel
    simp only [Option.bind_eq_some_iff] at hs
    obtain ⟨y, g1, g2⟩ := hs
    rw [lc _ _ _ hB] at l1
    obtain ⟨b1, b2⟩ := atL_some g1
    obtain ⟨b3, b4, b5, b6⟩ := hr.bl p _ hB
    exact ⟨_, g2, ok_pure ht hn htM (fun k => q_ixO (L := [[(V.id p, _, _)]]) (r := rowC _) 0 l1 l3 b1 b2 rfl t6 h k (HB_one b5)) l2 ⟨_, rfl, b1, rfl⟩⟩
   ·simp at hs
  ·simp at hs
 ·rename_i e p k i hx hi
  obtain ⟨d, l1, l2, c, rfl, lc⟩ := kO_ov hr hx
  obtain ⟨d2, l3, l4, c2, rfl, lc3⟩ := kO_ov hr hi
  rw [show c2 = _ from lc3] at l3
  split at hs
  ·rename_i te e2 z e' l hel hB
   split at hs
   ·rename_i hz
    subst hz
    obtain ⟨ti, i2, t1, t2, t3, t4, t5, t6, t7⟩ := elem_some hG hel
    simp only [Option.bind_eq_some_iff] at hs
    obtain ⟨y, g1, g2⟩ := hs
    rw [lc _ _ hB] at l1
    have hne := atL_ne g1
    obtain ⟨b1, b2⟩ := atL_some g1
    obtain ⟨b3, b4, b5⟩ := hr.bl p _ hB
    have b5 := b5 hne
    rw [show moC l (V.id p) = .own (V.id p) 0 l.length by cases l with | nil => exact absurd rfl hne | cons a l => rfl] at l1
    exact ⟨_, g2, ok_pure ht hn htM (fun k => q_ixO (L := [[(V.id p, _, _)]]) (r := rowC _) 0 l1 l3 b1 b2 rfl t6 h k (HB_one b5)) l2 ⟨_, rfl, b1, rfl⟩⟩
   ·simp at hs
  ·simp at hs
 ·rename_i p j k a hx hi
  obtain ⟨d, l1, l2, c, rfl, lc⟩ := kO_ov hr hx
  obtain ⟨d2, l3, l4, c2, rfl, lc3⟩ := kO_ov hr hi
  rw [show c = _ from lc] at l1
  rw [show c2 = _ from lc3] at l3
  split at hs
  ·rename_i ti hti
   split at hs
   ·rename_i m e hd
    split at hs
    ·rename_i te hte
     split at hs
     ·rename_i hlt
      exact ⟨_, hs, ok_pure ht hn htM (fun k => q_ixA (L := []) (hG.ti _ _ hti) hd (hG.ti _ _ hte) rfl l1 l3 (blt_of hlt) h k HB_nil) l2 ⟨_, rfl, rfl⟩⟩
     ·simp at hs
    ·simp at hs
   ·simp at hs
  ·simp at hs
 ·rename_i e fr s i y j k a hx hi
  obtain ⟨d, l1, l2, c, rfl, fl, lc, lc2⟩ := kO_ov hr hx
  obtain ⟨d2, l3, l4, c2, rfl, lc3⟩ := kO_ov hr hi
  rw [lc] at l1
  rw [show c2 = _ from lc3] at l3
  split at hs
  ·rename_i ti hti
   split at hs
   ·rename_i m e' hd
    split at hs
    ·rename_i te hte
     split at hs
     ·rename_i hlt
      exact ⟨_, hs, ok_pure ht hn htM (fun k => q_ixAI (hG.ti _ _ hti) hd (hG.ti _ _ hte) l1 l3 hlt k) trivial ⟨_, rfl, fl, rfl, lc2⟩⟩
     ·simp at hs
    ·simp at hs
   ·simp at hs
  ·simp at hs
 ·simp at hs
where
 q_ixAI {ty e : TypeId} {t te : TI} {m : Nat} {x ix : Operand} {fr fb : Bool} {kb : IntKind} {sz i j a : Nat} {l : List (List T)} (ht : E.ti ty = some t) (hd : t.desc = .array m e) (hte : E.ti e = some te) (hx : ov F.nt f x = some (.one (.iptr fr sz l i j))) (hi : ov F.nt f ix = some (.one (.p fb (.v (.int kb (a : Int)))))) (ha : a < m) (nid : Nat) : stepG E (cpR E n) none nid (.indexAddr ty x ix) (slots (tab F.nt f)) h = some ⟨.one (.iptr fr sz l i (j + a * te.size)), []⟩ := by
  rw [s_index, ov_eq, hx, ov_eq, hi]
  refine Eq.trans (b := kIx2 E.ti ty h a (.one (.iptr fr sz l i j))) rfl ?_
  show ((E.ti ty).bind fun t => match t.desc with
   | .array n e => (E.ti e).bind fun te => if a < n then some (⟨.one (.iptr fr sz l i (j + a * te.size)), []⟩ : Eff) else none
   | _ => none) = _
  rw [ht]
  simp only [Option.bind_some, hd, hte]
  rw [if_pos ha]
theorem ok_index (hG : GOk G E D0) (hr : Rel F ks V f h) (ht : ks.nx ≤ tag) (hn : ks.nx ≤ nid) (htM : tag < M) {t : TypeId} {x ix : Operand} (hs : stepK G F ks tag nid (.index t x ix) κ = some r) : ∃ e, κ e = some r ∧ StepOk E n F ks V f h M tag nid (.index t x ix) e := by
 simp only [stepK] at hs
 split at hs
 ·rename_i ti cs k a hti hx hi
  obtain ⟨d, l1, l2, c, rfl, lc⟩ := kO_ov hr hx
  obtain ⟨d2, l3, l4, c2, rfl, lc3⟩ := kO_ov hr hi
  rw [show c2 = _ from lc3] at l3
  split at hs
  ·rename_i m e hd
   split at hs
   ·rename_i te hte
    split at hs
    ·rename_i hlt
     simp only [Option.bind_eq_some_iff] at hs
     obtain ⟨d2, ⟨cs2, g1, g2⟩, g3⟩ := hs
     obtain ⟨c2, g8, g9⟩ := lc.cut g1
     obtain ⟨d3, k1, k2, k3⟩ := kOf_some g2 (scs_cut l2 g1) g9
     refine ⟨_, g3, ok_pure ht hn htM (fun k => ?_) k3 k2⟩
     show ((E.ti t).bind fun t' => (opndG (slots (tab F.nt f)) ix).bind fun di => (asNat di).bind fun i => (opndG (slots (tab F.nt f)) x).bind fun dx => match dx with
      | .agg cs => match t'.desc with
       | .array n e => (E.ti e).bind fun te => if i < n then (Ev.cut cs (i * te.size) (if isAggD te.desc then te.size else 1)).bind fun c => (ofCells (isAggD te.desc) c).bind fun v => some (⟨v, []⟩ : Eff) else none
       | _ => none
      | _ => none) = _
     rw [hG.ti _ _ hti, ov_eq, ov_eq, l3, l1]
     simp only [Option.bind_some]
     rw [show asNat (.one (iC _ (Int.ofNat a))) = some a from rfl]
     simp only [Option.bind_some, hd, hG.ti _ _ hte]
     rw [if_pos hlt]
     have hc' : Ev.cut c (a * te.size) (if isAggD te.desc then te.size else 1) = some c2 := by
      rw [← g8]; unfold wd; cases isAggD te.desc <;> rfl
     rw [hc']
     simp only [Option.bind_some, k1]
    ·simp at hs
   ·simp at hs
  ·simp at hs
 ·simp at hs
theorem caps_some (hr : Rel F ks V f h) : ∀ {l : List Operand} {ds : List KD} {ps : List Nat}, kArgs F ks l = some ds → kCaps ds = some ps → capsOf F.nt f l = some (ps.map fun p => .ptr (V.id p) 0 0) ∧ ∀ p ∈ ps, p < ks.nx
 | [], ds, ps, h1, h2 => by
  have := Option.some.inj (show some [] = some ds from h1)
  subst this
  have := Option.some.inj (show some [] = some ps from h2)
  subst this
  exact ⟨rfl, by simp⟩
 | x :: l, ds, ps, h1, h2 => by
  simp only [kArgs, Option.bind_eq_some_iff] at h1
  obtain ⟨d, g1, r, g2, g3⟩ := h1
  have := Option.some.inj g3
  subst this
  unfold kCaps at h2
  split at h2
  ·rename_i heq; simp at heq
  ·rename_i p j r' heq
   cases heq
   split at h2
   ·rename_i hj
    subst hj
    rw [Option.map_eq_some_iff] at h2
    obtain ⟨ps2, k1, rfl⟩ := h2
    obtain ⟨e1, e2⟩ := caps_some hr g2 k1
    obtain ⟨d', f1, f2, c, rfl, f3⟩ := kO_ov hr g1
    refine ⟨?_, fun q hq => by rcases List.mem_cons.1 hq with rfl | hq; exact f2; exact e2 q hq⟩
    unfold capsOf at e1 ⊢
    rw [List.mapM_cons, e1, f1, show c = _ from f3]; rfl
   ·simp at h2
  ·simp at h2
theorem ok_makeFunc (hr : Rel F ks V f h) (ht : ks.nx ≤ tag) (hn : ks.nx ≤ nid) (htM : tag < M) {fn : Fn} {first cap : Array Operand} (hs : stepK G F ks tag nid (.makeFunc fn first cap) κ = some r) : ∃ e, κ e = some r ∧ StepOk E n F ks V f h M tag nid (.makeFunc fn first cap) e := by
 simp only [stepK] at hs
 split at hs
 ·rename_i k ps hf hcap
  simp only [Option.bind_eq_some_iff] at hcap
  obtain ⟨ds, g1, g2⟩ := hcap
  obtain ⟨e1, e2⟩ := caps_some hr g1 g2
  exact ⟨_, hs, ok_pure ht hn htM (fun q => q_mkfun (L := []) (fs := []) (by rw [hf]; rfl) e1 h q HB_nil) e2 ⟨_, rfl, rfl⟩⟩
 ·simp at hs
end
end K
end Ev
end Go.Proofs.Ytlkcneneagifoaa
end
