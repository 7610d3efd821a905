/- The evaluator is right at a region, in the order of its text. No program is named here. -/
import Derived.RangeFuncRecord
import Derived.RangeFuncCalls
import Derived.OrdersIn
import Derived.TacticsIn
import Derived.Test.YtjomjfjbpcafhaaDoorEv10
namespace Go.Proofs.YtjomjfjbpcafhaaDoor
namespace Ev
open Go Go.RowKit
set_option linter.unusedVariables false
set_option linter.unusedSimpArgs false

def CpOk (P : Program) (cp : CallP) : Prop := ∀ k vs kind rs, cp k vs = some (kind, rs) → PureOk P k vs kind rs ∧ Enters P k
def CfOk (P : Program) (cf : CallF) : Prop := ∀ k args H v H', cf k args H = some (v, H') → Enters P k ∧
  ∀ (w : World) (base : Nat) (F0 : Nat → Prop) (ρ : Nat → Nat) (ys : List Value), base ≤ w.heap.size → (∀ b, F0 b → b < base) → HRel w base F0 ρ H → args.length = ys.length →
    (∀ (i : Nat) d, args[i]? = some d → ∃ y, ys[i]? = some y ∧ RepD w base (Fb F0 ρ H) ρ H d y) →
    Calls P k ys.toArray w fun e w' => ∃ y ρ', e = .returned y ∧ HRel w' base F0 ρ' H' ∧ Ext w ρ H w' ρ' H' ∧ RepD w' base (Fb F0 ρ' H') ρ' H' v y

section
variable {E : Env} {cp : CallP} {w : World} {base : Nat} {F0 : Nat → Prop} {ρ : Nat → Nat} {H : Heap}

theorem call_op {P : Program} {o : Oper} {c : Call} (hc : isCall o.op = some c) : ∀ (ev : Operand → Value), execOp ev o = (do let d ← resolve ev c o.type; invoke d.target d.args) := by
  intro ev
  unfold isCall at hc
  split at hc
  · rename_i c' ho
    split at hc
    · simp at hc
    · simp only [Option.some.injEq] at hc
      subst hc
      unfold execOp
      rw [ho]
  · simp at hc

theorem wanted_rep {F : Nat → Prop} {t : Tmp → Option D} {a : Act} (T : RelG w base F ρ H t a) {ops : Array Oper} {o : Oper} {b : Bool} (h : wantedD ops t o = some b) : Region.wanted o (yielded ops a.tmps) = b := by
  unfold wantedD at h
  unfold Region.wanted
  split at h
  · rename_i hg; simp only [Option.some.injEq] at h; rw [hg]; simpa using h
  · rename_i j want hg
    rw [hg]
    simp only [Option.bind_eq_bind, Option.bind_eq_some_iff] at h
    obtain ⟨g, h1, d, h2, x, h3, h4⟩ := h
    obtain ⟨y, y1, y2⟩ := T d x h3
    split at h4
    · rename_i fr b'
      simp only [Option.some.injEq] at h4
      subst h4
      have := plain_rep (x := .bool b') y2 rfl
      subst this
      simp [yielded, h1, h2, y1]
    · simp only [Option.some.injEq] at h4
      subst h4
      cases y2 with
      | tup ds ys yy hl he hr => simp [yielded, h1, h2, y1]
    · simp at h4

/-- What is behind an operation. -/
def After (base : Nat) (F0 : Nat → Prop) (w : World) (ρ : Nat → Nat) (H : Heap) (a : Act) (o : Oper) (e : Eff) (a' : Act) (w' : World) : Prop :=
  ∃ y ρ', a' = a.put o.dst y ∧ HRel w' base F0 ρ' (apply H e.upd) ∧ Ext w ρ H w' ρ' (apply H e.upd) ∧ RepD w' base (Fb F0 ρ' (apply H e.upd)) ρ' (apply H e.upd) e.v y

def opGoal (P : Program) (ops : Array Oper) (o : Oper) (a : Act) (w : World) (K : Act → World → Prop) (Q : Exit → Act → World → Prop) : Prop :=
  if Region.wanted o (yielded ops a.tmps) then o.wp P a w K Q ∨ (o.asks P a w ∧ LetsOut Q) else K (a.put o.dst undef) w

theorem ext_below (R : HRel w base F0 ρ H) {w' : World} (hbl : Below w.heap.size w w') : HRel w' base F0 ρ H ∧ Ext w ρ H w' ρ H := by
  have X : Ext w ρ H w' ρ H := ⟨hbl.os, hbl.tape, hbl.output, hbl.size, fun b hb' _ => hbl.block b hb', fun _ _ h => h, fun b hb' => by unfold bsize; rw [hbl.block b hb'], fun k B hB hn => ⟨B, hB, hn, fun sz es h => ⟨es, h, rfl⟩⟩, fun k es _ hk => ⟨hk, hbl.block _ (R.lt k _ _ hk)⟩⟩
  exact ⟨hrel_gen R X (fun k sz es hk => .inl ⟨hk, rfl, hbl.block _ (R.lt k sz es hk)⟩) fun k k' _ _ _ _ q1 q2 q3 => R.inj k k' _ _ _ _ q1 q2 q3, X⟩
/-- A block that a call hands over. -/
theorem ext_own (R : HRel w base F0 ρ H) (hb : base ≤ w.heap.size) {w' : World} (hbl : Below w.heap.size w w') {nid : Nat} (hn : ∀ B, H[nid]? = some B → B = .no) {b c sz : Nat} {l : List (List T)} (hlc : l.length ≤ c) (h1 : w.heap.size ≤ b) (h2 : b < w'.heap.size) (h3 : c * sz ≤ bsize w' b) (h4 : ∀ o, w'.frozen? ⟨b, o, none⟩ = false)
    (h5 : ∀ (i : Nat) e, l[i]? = some e → e.length = sz) (h6 : ∀ (i j : Nat) e t, l[i]? = some e → e[j]? = some t → ∃ x, t = .v x ∧ x.oneCell' = true ∧ w'.cell? ⟨b, i * sz + j, none⟩ = some x) :
    HRel w' base F0 (fun k => if k = nid then b else ρ k) (putBlk H nid (.own sz (l.map (·.map (pC true))))) ∧ Ext w ρ H w' (fun k => if k = nid then b else ρ k) (putBlk H nid (.own sz (l.map (·.map (pC true))))) := by
  have X : Ext w ρ H w' (fun k => if k = nid then b else ρ k) (putBlk H nid (.own sz (l.map (·.map (pC true))))) := by
    refine ⟨hbl.os, hbl.tape, hbl.output, hbl.size, fun b hb' _ => hbl.block b hb', fun q hq ⟨k, sz', es', k1, k2⟩ => ?_, fun b hb' => by unfold bsize; rw [hbl.block b hb'], fun k B hB hno => ?_, fun k es1 _ hB => ?_⟩
    · by_cases hk : k = nid
      · simp only [hk, if_true] at k2; omega
      · simp only [hk, if_false] at k2
        exact ⟨k, sz', es', put_back hk (by simp) k1, k2⟩
    · have hk : k ≠ nid := fun hk => hno (hn B (hk ▸ hB))
      exact ⟨B, put_keeps hk hB, hno, fun sz' es' he => ⟨es', he, by simp [hk]⟩⟩
    · have hk : k ≠ nid := fun hk => by have := hn _ (hk ▸ hB); simp at this
      exact ⟨put_keeps hk hB, hbl.block _ (R.lt k _ _ hB)⟩
  refine ⟨hrel_gen R X (fun k sz' es' h => ?_) fun k k' s1 e1 s2 e2 g1 g2 g3 => ?_, X⟩
  · by_cases hk : k = nid
    · subst hk
      rw [put_self] at h
      cases h
      simp only [if_true]
      refine .inr ⟨by omega, h2, h4, ?_, fun i e hi => ?_, fun i j e cc hi hj => ?_⟩
      · refine Nat.le_trans ?_ h3
        simp only [List.length_map]
        exact Nat.mul_le_mul_right _ hlc
      · simp only [List.getElem?_map, Option.map_eq_some_iff] at hi
        obtain ⟨e0, q1, rfl⟩ := hi
        simpa using h5 i e0 q1
      · simp only [List.getElem?_map, Option.map_eq_some_iff] at hi
        obtain ⟨e0, q1, rfl⟩ := hi
        simp only [List.getElem?_map, Option.map_eq_some_iff] at hj
        obtain ⟨t0, q2, rfl⟩ := hj
        obtain ⟨x, rfl, q3, q4⟩ := h6 i j e0 t0 q1 q2
        exact ⟨x, q4, rep_plain q3⟩
    · have h1 := put_back hk (by simp) h
      exact .inl ⟨h1, by simp [hk], hbl.block _ (R.lt k _ _ h1)⟩
  · by_cases hk : k = nid <;> by_cases hk' : k' = nid
    · omega
    · have := R.lt k' _ _ (put_back hk' (by simp) g2)
      simp [hk, hk'] at g3; omega
    · have := R.lt k _ _ (put_back hk (by simp) g1)
      simp [hk, hk'] at g3; omega
    · simp only [hk, hk', if_false] at g3
      exact R.inj k k' _ _ _ _ (put_back hk (by simp) g1) (put_back hk' (by simp) g2) g3

theorem pcall_ok {P : Program} (hcp : CpOk P cp) (R : HRel w base F0 ρ H) (hb : base ≤ w.heap.size) (hF : ∀ b, F0 b → b < base) {nid : Nat} (hn : ∀ B, H[nid]? = some B → B = .no) {t : Tmp → Option D} {a : Act} (T : RelG w base (Fb F0 ρ H) ρ H t a) {o : Oper} {c : Call} (hc : isCall o.op = some c) {e : Eff} (h : pcall cp nid c t H = some e)
    {K : Act → World → Prop} {Q : Exit → Act → World → Prop} (hK : ∀ a' w', After base F0 w ρ H a o e a' w' → K a' w') : o.wp P a w K Q := by
  unfold pcall at h
  simp only [Option.bind_eq_bind, Option.bind_eq_some_iff] at h
  obtain ⟨⟨k, args⟩, h1, vs, h2, ⟨kind, rs⟩, h3, h4⟩ := h
  obtain ⟨hpure, hent⟩ := hcp _ _ _ _ h3
  obtain ⟨ys, r1, r2, r3⟩ := resolve_ok (P := P) T h1 hent o.type
  obtain ⟨m1, m2, m3⟩ := mapM_get h2
  have hFb : ∀ b, Fb F0 ρ H b → b < w.heap.size := fun b hbb => by
    rcases hbb with h | ⟨k, sz, es, q1, q2⟩
    · have := hF b h; omega
    · rw [← q2]; exact R.lt k sz es q1
  have run : ∀ (F : Nat → Prop), (∀ b, F b → b < w.heap.size) → RepTDs w F (vs.map (·.2)) ys → (∀ y w', RepRes w' (fun b => b < w.heap.size ∧ (kind ≠ .any ∨ F b)) rs y → (kind = .own → OwnRes w' w.heap.size rs y) → Below w.heap.size w w' → After base F0 w ρ H a o e (a.put o.dst y) w') → o.wp P a w K Q := by
    intro F hFlt hargs hfin
    unfold Oper.wp
    rw [call_op (P := P) hc a.eval, r1]
    show Calls P k ys.toArray w _
    refine (hpure w F ys (R.laid.up hb) hFlt hargs).mono fun e' w' ⟨y, he', hres, hown, hbl⟩ => ?_
    subst he'
    exact hK _ _ (hfin y w' hres hown hbl)
  have key : ∀ (F : Nat → Prop) (fr : Bool), (∀ b, F b → b < w.heap.size) → RepTDs w F (vs.map (·.2)) ys → (∀ b, Frs (Fb F0 ρ H) base fr b → kind ≠ .any ∨ F b) → e = { v := tupD (rs.map (unview fr)) } → o.wp P a w K Q := by
    intro F fr hFlt hargs hsub he
    refine run F hFlt hargs fun y w' hres hown hbl => ?_
    obtain ⟨x1, x2⟩ := ext_below R hbl
    refine ⟨y, ρ, rfl, ?_, ?_, ?_⟩
    all_goals subst he
    all_goals simp only [apply, List.foldl_nil]
    · exact x1
    · exact x2
    · refine res_rep (fun b hbb => ⟨?_, hsub b hbb⟩) hres
      rcases hbb with h | h
      · exact hFb b h
      · have := h.2; omega
  have hviews : ∀ (i : Nat) td, (vs.map (·.2))[i]? = some td → ∃ d b y, args[i]? = some d ∧ viewD H d = some (b, td) ∧ (b, td) ∈ vs ∧ ys[i]? = some y ∧ RepD w base (Fb F0 ρ H) ρ H d y := by
    intro i td hi
    simp only [List.getElem?_map, Option.map_eq_some_iff] at hi
    obtain ⟨p, p1, rfl⟩ := hi
    obtain ⟨d, d1, d2⟩ := m3 i p p1
    obtain ⟨y, y1, y2⟩ := r3 i d d1
    exact ⟨d, p.1, y, d1, d2, List.mem_of_getElem? p1, y1, y2⟩
  have hlen : (vs.map (·.2)).length = ys.length := by simp [m1, r2]
  have hnone : RepTDs w (fun _ => False) (vs.map (·.2)) ys := ⟨hlen, fun i td hi => by
    obtain ⟨d, b, y, k1, k2, k3, k4, k5⟩ := hviews i td hi
    exact ⟨y, k4, (viewD_ok R k2 k5).1⟩⟩
  cases kind with
  | own =>
    simp only at h4
    split at h4
    · rename_i sz l
      simp only [Option.some.injEq] at h4
      refine run (fun _ => False) (fun _ h => h.elim) hnone fun y w' hres hown hbl => ?_
      obtain ⟨b, cc, sz', l', e1, e2, e3, e4, e5, e6, e7, e8, e9⟩ := hown rfl
      simp only [List.cons.injEq, TD.one.injEq, Ev.T.s.injEq, true_and, and_true] at e1
      obtain ⟨rfl, rfl⟩ := e1
      obtain ⟨x1, x2⟩ := ext_own R hb hbl hn e3 e4 e5 e6 e7 e8 e9
      subst h4
      refine ⟨y, _, rfl, x1, x2, ?_⟩
      simp only [apply, List.foldl_cons, List.foldl_nil]
      subst e2
      refine .one _ _ (.own nid 0 l.length cc _ ⟨_, put_self _ _ _, by simp⟩ e3 fun sz2 es2 hb2 => ?_)
      rw [put_self] at hb2
      cases hb2
      simp only [if_true, Nat.zero_mul, Nat.zero_add]
      exact ⟨trivial, e6⟩
    · simp at h4
  | fresh =>
    simp only [Option.some.injEq] at h4
    exact key (fun _ => False) true (fun _ h => h.elim) hnone (fun _ _ => .inl (by simp)) h4.symm
  | any =>
    simp only at h4
    split at h4
    · simp at h4
    · rename_i hno
      simp only [Option.some.injEq] at h4
      have hno' : ∀ d ∈ args, ownedD d = false := fun d hd => by
        cases hh : ownedD d with
        | false => rfl
        | true => exact absurd (List.any_eq_true.2 ⟨d, hd, hh⟩) hno
      refine key (Frs (Fb F0 ρ H) base (vs.all (·.1))) (vs.all (·.1)) (fun b hbb => ?_) ⟨hlen, fun i td hi => ?_⟩ (fun _ h => .inr h) h4.symm
      · rcases hbb with h | h
        · exact hFb b h
        · have := h.2; omega
      · obtain ⟨d, b, y, k1, k2, k3, k4, k5⟩ := hviews i td hi
        have := (viewD_ok R k2 k5).2 (hno' d (List.mem_of_getElem? k1))
        refine ⟨y, k4, ?_⟩
        have hsub : ∀ q, Frs (Fb F0 ρ H) base (vs.all (·.1)) q → Frs (Fb F0 ρ H) base b q := fun q hq => hq.imp id fun ⟨g1, g2⟩ => ⟨List.all_eq_true.1 g1 _ k3, g2⟩
        cases this with
        | one t y h => exact .one _ _ (h.weak hsub)
        | agg ts ys h => exact .agg _ _ (h.weak fun t y h => h.weak hsub)

theorem step_ok (hE : TiOk E.P E.ti) (hcp : CpOk E.P cp) (R : HRel w base F0 ρ H) (hb : base ≤ w.heap.size) (hF : ∀ b, F0 b → b < base) {nid : Nat} (hn : ∀ B, H[nid]? = some B → B = .no) {t : Tmp → Option D} {a : Act} (T : RelG w base (Fb F0 ρ H) ρ H t a)
    {ops : Array Oper} {o : Oper} {e : Eff} (h : step E cp ops nid o t H = some e) {K : Act → World → Prop} {Q : Exit → Act → World → Prop} (hK : ∀ a' w', After base F0 w ρ H a o e a' w' → K a' w') : opGoal E.P ops o a w K Q := by
  unfold step at h
  simp only [Option.bind_eq_bind, Option.bind_eq_some_iff] at h
  obtain ⟨b, h1, h2⟩ := h
  unfold opGoal
  rw [wanted_rep T h1]
  cases b with
  | false =>
    simp only [Bool.false_eq_true, if_false, Option.some.injEq] at h2 ⊢
    subst h2
    exact hK _ _ ⟨undef, ρ, rfl, R, Ext.refl _ _ _, rep_undef⟩
  | true =>
    simp only [if_true] at h2 ⊢
    left
    split at h2
    · rename_i c hc
      exact pcall_ok hcp R hb hF hn T hc h2 hK
    · obtain ⟨y, w', ρ', g1, g2, g3, g4⟩ := sem_ok hE R hb hn T h2
      unfold Oper.wp
      rcases g1 with g1 | ⟨g1, rfl⟩
      · rw [g1]; exact hK _ _ ⟨y, ρ', rfl, g2, g3, g4⟩
      · rw [g1]; exact hK _ _ ⟨undef, ρ', rfl, g2, g3, g4⟩

/-- The state of a call, in a world. -/
structure Rel (base : Nat) (F0 : Nat → Prop) (ρ : Nat → Nat) (s : St) (a : Act) (w : World) : Prop where
  heap : HRel w base F0 ρ s.h
  tmps : RelT w base (Fb F0 ρ s.h) ρ s.h s.t a
  base : base ≤ w.heap.size
theorem put_defers {a : Act} {d : Option Tmp} {v : Value} : (a.put d v).defers = a.defers := by unfold Act.put; split <;> rfl
theorem After.rel {s s' : St} {a a' : Act} {w' : World} {o : Oper} {e : Eff} (R : Rel base F0 ρ s a w) (hp : put o s e = some s') (h : After base F0 w ρ s.h a o e a' w') : ∃ ρ', Rel base F0 ρ' s' a' w' ∧ Ext w ρ s.h w' ρ' s'.h ∧ a'.defers = a.defers := by
  unfold put at hp
  simp only [Option.bind_eq_bind, Option.bind_eq_some_iff, Option.some.injEq] at hp
  obtain ⟨t, h1, rfl⟩ := hp
  obtain ⟨y, ρ', rfl, h2, h3, h4⟩ := h
  exact ⟨ρ', ⟨h2, (R.tmps.mono fun c y hc => hc.ext R.heap.lt h3).set h1 h4, Nat.le_trans R.base h3.size⟩, h3, put_defers⟩

/-- What the rounds of a call's loops keep: `A`: the loops' blocks; `J`: what is known of them. -/
structure YOk (P : Program) (base : Nat) (F0 : Nat → Prop) (y : YldP) (A B : Nat → Prop) (J : Heap → (Nat → Nat) → World → Prop) : Prop where
  sub : ∀ k, A k → B k
  lt : ∀ H ρ w k, J H ρ w → B k → ∃ es, H[k]? = some (.own 0 es)
  keep : ∀ H ρ w H' ρ' w', HRel w base F0 ρ H → J H ρ w → ExtA (fun k => ¬ B k) w ρ H w' ρ' H' → HRel w' base F0 ρ' H' → J H' ρ' w'
  obj : ∀ H ρ w l o o', HRel w base F0 ρ H → J H ρ w → w.heap[l]? = some o → o.isCells = false → o'.isCells = false → (∀ k, B k → ρ k ≠ l) → J H ρ (w.putObj l o')
  round : ∀ k args H e H1, y k args H = some (e, H1) → A k ∧ ∀ (w : World) (ρ : Nat → Nat) (ys : List Value), HRel w base F0 ρ H → base ≤ w.heap.size → J H ρ w → H[k]? = some (.own 0 []) → args.length = ys.length →
    (∀ (i : Nat) d, args[i]? = some d → ∃ y, ys[i]? = some y ∧ RepD w base (Fb F0 ρ H) ρ H d y) →
    ∃ f tmps asg body, (Instr.yield (ρ k) ys.toArray).run P w = .ok (.round (ρ k) f tmps asg body) w ∧
      ∀ n, RoundIn Fence.wide n P (ρ k) f tmps asg body w fun e' w' => e' = .returned (.bool (e == .normal)) ∧ ∃ ρ', HRel w' base F0 ρ' (putBlk H1 k (yblk e)) ∧ ExtA A w ρ H w' ρ' (putBlk H1 k (yblk e)) ∧ J (putBlk H1 k (yblk e)) ρ' w'
theorem yOk_none {P : Program} : YOk P base F0 noY noA noA fun _ _ _ => True := ⟨fun _ h => h, fun _ _ _ _ _ h => h.elim, fun _ _ _ _ _ _ _ _ _ _ => trivial, fun _ _ _ _ _ _ _ _ _ _ _ _ => trivial, fun k args H e H1 h => by simp [noY] at h⟩

/-- The fence of a frame: of a round, or of none. -/
abbrev FR (r : Option Nat) : Fence := { Fence.wide with round := r }

def opIn (P : Program) (r : Option Nat) (n : Nat) (ops : Array Oper) (o : Oper) (a : Act) (w : World) (K : Act → World → Prop) (Q : Exit → Act → World → Prop) : Prop :=
  if Region.wanted o (yielded ops a.tmps) then o.wpIn (FR r) n P a w K Q else K (a.put o.dst undef) w

theorem upon_lift {P : Program} {o : Oper} {a : Act} {next : Act → World → Prop} {Q : Exit → Act → World → Prop} {r : Option Nat} {n : Nat} : ∀ {x : Result Next}, o.upon P a next Q x → o.uponIn (FR r) n P a next Q x
  | .ok (.value _) _, h => h
  | .ok .skip _, h => h
  | .ok (.defer _) _, h => h
  | .ok (.enter _ _) _, h => ⟨fun hd => by simp [Fence.wide] at hd, callsIn_wide.2 h⟩
  | .ok (.row _ _) _, h => ⟨fun hd => by simp [Fence.wide] at hd, fun c cs _ => by obtain ⟨v, w', x, s⟩ := h c cs; exact ⟨v, w', x, stepsIn_wide.2 s⟩⟩
  | .ok (.round ..) _, h => h.elim
  | .halt (.panic _) _, h => h
theorem semAt_plain {r : Option Nat} {o : Oper} (hd : noDefer o = true) (ev : Operand → Value) : o.semAt r ev = execOp ev o := by
  cases r with
  | none => rfl
  | some l => exact Oper.semAt_some l _ _ fun c h => by unfold noDefer at hd; rw [h] at hd; simp at hd
theorem wpIn_of_wp {P : Program} {o : Oper} {a : Act} {w : World} {K : Act → World → Prop} {Q : Exit → Act → World → Prop} {r : Option Nat} {n : Nat} (hd : noDefer o = true) (h : o.wp P a w K Q) : o.wpIn (FR r) n P a w K Q := by
  refine ⟨fun _ _ => trivial, ?_⟩
  rw [show (FR r).round = r from rfl, semAt_plain hd]
  exact upon_lift h
theorem step_plain {ops : Array Oper} {nid : Nat} {o : Oper} {t : Tmp → Option D} {e : Eff} (h : step E cp ops nid o t H = some e) (hw : wantedD ops t o = some true) : noDefer o = true := by
  unfold noDefer
  split
  · rename_i c ho
    unfold step at h
    simp only [Option.bind_eq_bind, hw, Option.bind_some, if_true, isCall, ho] at h
    simp [sem, ho] at h
  · rfl
theorem call_plain {o : Oper} {c : Call} (hc : isCall o.op = some c) : noDefer o = true := by
  unfold noDefer
  split
  · rename_i c' ho; simp [isCall, ho] at hc
  · rfl
theorem goal_in {ops : Array Oper} {o : Oper} {a : Act} {K : Act → World → Prop} {Q : Exit → Act → World → Prop} {r : Option Nat} {n : Nat} (hno : ¬ LetsOut Q) (hd : Region.wanted o (yielded ops a.tmps) = true → noDefer o = true) (h : opGoal E.P ops o a w K Q) : opIn E.P r n ops o a w K Q := by
  unfold opGoal at h
  unfold opIn
  split
  · rename_i hw
    rw [if_pos hw] at h
    rcases h with h | ⟨_, h⟩
    · exact wpIn_of_wp (hd hw) h
    · exact absurd h hno
  · rename_i hw
    rw [if_neg hw] at h
    exact h

theorem evOp_in {cf : CallG} {A B : Nat → Prop} {J : Heap → (Nat → Nat) → World → Prop} (hE : TiOk E.P E.ti) (hcp : CpOk E.P cp) (hcf : CfOk E.P cf.f) (hY : YOk E.P base F0 cf.y A B J) (hF : ∀ b, F0 b → b < base) {ops : Array Oper} {o : Oper} {s s' : St} {a : Act} (R : Rel base F0 ρ s a w) (hJ : J s.h ρ w) (h : evOp E cp cf ops o s = some s')
    {K : Act → World → Prop} {Q : Exit → Act → World → Prop} {r : Option Nat} {n : Nat} (hno : ¬ LetsOut Q) (hK : ∀ a' w' ρ', Rel base F0 ρ' s' a' w' → ExtA A w ρ s.h w' ρ' s'.h → J s'.h ρ' w' → a'.defers = a.defers → K a' w') : opIn E.P r n ops o a w K Q := by
  unfold evOp at h
  split at h
  · rename_i e he
    refine goal_in hno (fun hw => ?_) (step_ok hE hcp R.heap R.base hF (fun B hB => by have := (List.getElem?_eq_some_iff.1 hB).1; omega) R.tmps.g he fun a' w' ha => let ⟨ρ', r1, r2, r3⟩ := ha.rel R h; hK a' w' ρ' r1 r2.toA (hY.keep _ _ _ _ _ _ R.heap hJ r2.toA r1.heap) r3)
    have hh := he
    unfold step at hh
    simp only [Option.bind_eq_bind, Option.bind_eq_some_iff] at hh
    obtain ⟨b, h1, h2⟩ := hh
    have := wanted_rep R.tmps.g h1
    rw [this] at hw
    subst hw
    exact step_plain he h1
  · rw [Option.or_eq_some_iff] at h
    rcases h with h | ⟨_, h⟩
    · unfold scall at h
      simp only [Option.bind_eq_bind, Option.bind_eq_some_iff] at h
      obtain ⟨b, h1, h2⟩ := h
      unfold opIn
      rw [wanted_rep R.tmps.g h1]
      cases b with
      | false => simp at h2
      | true =>
        simp only [if_true] at h2 ⊢
        split at h2
        · rename_i c hc
          refine wpIn_of_wp (call_plain hc) ?_
          simp only [Option.bind_eq_some_iff, Option.some.injEq] at h2
          obtain ⟨⟨k, args⟩, h3, ⟨v, H'⟩, h4, t, h5, rfl⟩ := h2
          obtain ⟨hent, hcall⟩ := hcf _ _ _ _ _ h4
          obtain ⟨ys, r1, r2, r3⟩ := resolve_ok (P := E.P) R.tmps.g h3 hent o.type
          unfold Oper.wp
          rw [call_op (P := E.P) hc a.eval, r1]
          show Calls E.P k ys.toArray w _
          refine (hcall w base F0 ρ ys R.base hF R.heap r2 r3).mono fun e' w' ⟨y, ρ', he', g1, g2, g3⟩ => ?_
          subst he'
          exact hK _ _ ρ' ⟨g1, (R.tmps.mono fun c y hc => hc.ext R.heap.lt g2).set h5 g3, Nat.le_trans R.base g2.size⟩ g2.toA (hY.keep _ _ _ _ _ _ R.heap hJ g2.toA g1) put_defers
        · simp at h2
    · unfold ycall at h
      simp only [Option.bind_eq_bind, Option.bind_eq_some_iff] at h
      obtain ⟨b, h1, h2⟩ := h
      unfold opIn
      rw [wanted_rep R.tmps.g h1]
      cases b with
      | false => simp at h2
      | true =>
        simp only [if_true] at h2 ⊢
        split at h2
        · rename_i c hc
          split at h2
          · rename_i f hf
            simp only [Option.bind_eq_some_iff] at h2
            obtain ⟨args, h3, df, h4, h5⟩ := h2
            split at h5
            · rename_i k
              simp only [Option.bind_eq_some_iff] at h5
              obtain ⟨⟨sz, es⟩, h6, h7⟩ := h5
              split at h7
              · rename_i hz
                obtain ⟨rfl, rfl⟩ := hz
                simp only [Option.bind_eq_some_iff, Option.some.injEq] at h7
                obtain ⟨⟨e, H1⟩, h8, t, h9, rfl⟩ := h7
                have hbk := getBlk_some h6
                obtain ⟨hA, hr⟩ := hY.round _ _ _ _ _ h8
                obtain ⟨g1, g2⟩ := args_rep R.tmps.g _ _ h3
                have hv : a.eval f = .func (.yield (ρ k)) #[] #[] := by
                  have hfr := R.tmps.g.opnd h4
                  generalize a.eval f = vf at hfr
                  cases hfr with
                  | one cc y hc => cases hc with | yld k y q1 q2 q3 => exact q3 _ _ hbk
                obtain ⟨fn, tmps, asg, body, q1, q2⟩ := hr w ρ (c.args.toList.map a.eval) R.heap R.base hJ hbk (by simpa using g1) g2
                refine ⟨fun _ _ => trivial, ?_⟩
                rw [show (FR r).round = r from rfl, semAt_plain (call_plain hc), call_op (P := E.P) hc a.eval]
                have hmap : c.args.map a.eval = (c.args.toList.map a.eval).toArray := by apply Array.ext'; simp
                have hrun : (do let d ← resolve a.eval c o.type; invoke d.target d.args : Sem Next) = Instr.yield (ρ k) (c.args.map a.eval) := by
                  unfold resolve
                  rw [hf]
                  simp only [hv]
                  show Instr.yield (ρ k) (#[] ++ c.args.map a.eval ++ #[]) = _
                  simp
                rw [hrun, hmap, q1]
                refine ⟨fun hd => by simp [Fence.wide] at hd, ?_⟩
                refine RoundIn.mono (F := FR r) (q2 (n - 1)) fun e' w' ⟨he, ρ', z1, z2, z3⟩ => ?_
                subst he
                exact hK _ _ ρ' ⟨z1, (R.tmps.mono fun c y hc => hc.ext R.heap.lt z2).set h9 (rep_mk rfl), Nat.le_trans R.base z2.size⟩ z2 z3 put_defers
              · simp at h7
            · simp at h5
          · simp at h2
        · simp at h2

theorem evOps_in {cf : CallG} {A B : Nat → Prop} {J : Heap → (Nat → Nat) → World → Prop} (hE : TiOk E.P E.ti) (hcp : CpOk E.P cp) (hcf : CfOk E.P cf.f) (hY : YOk E.P base F0 cf.y A B J) (hF : ∀ b, F0 b → b < base) {ops : Array Oper} {Q : Exit → Act → World → Prop} {r : Option Nat} {n : Nat} (hno : ¬ LetsOut Q) : ∀ (l : List Oper) (is : List Nat) (s s' : St) (a : Act) (w : World) (ρ : Nat → Nat),
    (is.length = l.length ∧ ∀ (i : Nat) n, is[i]? = some n → ops[n]? = l[i]?) → Rel base F0 ρ s a w → J s.h ρ w → evOps E cp cf ops l s = some s' → (∀ a' w' ρ', Rel base F0 ρ' s' a' w' → ExtA A w ρ s.h w' ρ' s'.h → J s'.h ρ' w' → a'.defers = a.defers → Q .normal a' w') → wpOpsIn (FR r) n E.P ops Q is a w
  | [], is, s, s', a, w, ρ, hi, R, hJ, h, hQ => by
    have : is = [] := List.length_eq_zero_iff.1 hi.1
    subst this
    simp only [evOps, Option.some.injEq] at h
    subst h
    exact hQ a w ρ R (ExtA.refl _ _ _) hJ rfl
  | o :: l, [], s, s', a, w, ρ, hi, R, hJ, h, hQ => by simp at hi
  | o :: l, i :: is, s, s', a, w, ρ, hi, R, hJ, h, hQ => by
    simp only [evOps, Option.bind_eq_bind, Option.bind_eq_some_iff] at h
    obtain ⟨s1, h1, h2⟩ := h
    have ho : ops[i]? = some o := by simpa using hi.2 0 i rfl
    have := evOp_in (r := r) (n := n) (Q := Q) (K := wpOpsIn (FR r) n E.P ops Q is) hE hcp hcf hY hF R hJ h1 hno fun a' w' ρ' R' X J' hd => evOps_in hE hcp hcf hY hF hno l is s1 s' a' w' ρ' ⟨by simpa using hi.1, fun j n hj => by simpa using hi.2 (j + 1) n (by simpa using hj)⟩ R' J' h2 fun a2 w2 ρ2 R2 X2 J2 hd2 => hQ a2 w2 ρ2 R2 (X.trans X2) J2 (hd2.trans hd)
    unfold wpOpsIn
    rw [ho]
    dsimp only
    unfold opIn at this
    split
    · rename_i hw; rw [if_pos hw] at this; exact this
    · rename_i hw; rw [if_neg hw] at this; exact ⟨fun _ _ => trivial, this⟩
end
end Ev
end Go.Proofs.YtjomjfjbpcafhaaDoor
