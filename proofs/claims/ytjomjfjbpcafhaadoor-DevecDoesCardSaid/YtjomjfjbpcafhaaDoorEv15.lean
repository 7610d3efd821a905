/- The evaluator is right at functions: what a function's code comes to over data, a call of it comes to in any world. No program is named here. -/
import Derived.Test.YtjomjfjbpcafhaaDoorEvY
namespace Go.Proofs.YtjomjfjbpcafhaaDoor
namespace Ev
open Go Go.RowKit
set_option linter.unusedVariables false
set_option linter.unusedSimpArgs false

structure Env.Ok (E : Env) : Prop where
  ti : TiOk E.P E.ti
  mixed : E.P.follows .mixedOrders = true
  fn : ∀ k f, E.fn k = some f → ∃ fn : Func, E.P.funcs[k]? = some fn ∧ (fn.name == "runtime.NumGoroutine") = false ∧ fn.body = some f.body ∧ fn.ntmps = f.nt ∧ fn.results.toList = f.results
  ax : ∀ k F vs kind rs, E.ax k = some F → F vs = some (kind, rs) → PureOk E.P k vs kind rs ∧ Enters E.P k

section
variable {E : Env} {cp : CallP} {cf : CallG} {base : Nat} {F0 : Nat → Prop}

theorem results_list (hE : TiOk E.P E.ti) {s : St} {a : Act} {w : World} {ρ : Nat → Nat} (R : Rel base F0 ρ s a w) : ∀ (l : List ResultVar) (rs : List D), l.mapM (resultD E s) = some rs →
    ∃ ys, (l.mapM fun
      | .tmp t => pure (a.tmps.getD t undef)
      | .cell x t => do loadVar t (← asAddr (a.tmps.getD x undef)) : Sem (List Value)).run E.P w = .ok ys w ∧ rs.length = ys.length ∧ ∀ (i : Nat) d, rs[i]? = some d → ∃ y, ys[i]? = some y ∧ RepD w base (Fb F0 ρ s.h) ρ s.h d y
  | [], rs, h => by simp at h; subst h; exact ⟨[], by simp, rfl, fun i d hi => by simp at hi⟩
  | r :: l, rs, h => by
    simp only [List.mapM_cons, Option.bind_eq_bind, Option.bind_eq_some_iff, Option.pure_def, Option.some.injEq] at h
    obtain ⟨d, h1, r', h2, rfl⟩ := h
    obtain ⟨ys, g1, g2, g3⟩ := results_list hE R l r' h2
    have head : ∃ y, (match r with
      | .tmp t => pure (a.tmps.getD t undef)
      | .cell x t => do loadVar t (← asAddr (a.tmps.getD x undef)) : Sem Value).run E.P w = .ok y w ∧ RepD w base (Fb F0 ρ s.h) ρ s.h d y := by
      cases r with
      | tmp t =>
        obtain ⟨y, y1, y2⟩ := R.tmps.2.2 t d h1
        exact ⟨y, by simp [Array.getD_eq_getD_getElem?, y1], y2⟩
      | cell x ty =>
        simp only [resultD, Option.bind_eq_bind, Option.bind_eq_some_iff] at h1
        obtain ⟨i, k1, dx, k2, k3⟩ := h1
        obtain ⟨y, y1, y2⟩ := R.tmps.2.2 x dx k2
        obtain ⟨z, z1, z2⟩ := load_ok hE k1 R.heap y2 k3
        have hy : a.tmps.getD x undef = y := by simp [Array.getD_eq_getD_getElem?, y1]
        refine ⟨z, ?_, z2⟩
        simp only [hy]
        have hp : ∃ q, y = .pointer (some q) := by
          unfold load at k3
          split at k3
          · cases y2 with | one c y hc => cases hc with | ptr k i j q hk ha => exact ⟨q, rfl⟩
          · cases y2 with | one c y hc => cases hc with | iptr fr sz l i j q yy hm hr => exact ⟨q, rfl⟩
          · simp at k3
        obtain ⟨q, rfl⟩ := hp
        simpa [Instr.loadAt, Instr.sureAddr, asAddr] using z1
    obtain ⟨y, y1, y2⟩ := head
    refine ⟨y :: ys, ?_, by simpa using g2, fun i d' hi => ?_⟩
    · rw [List.mapM_cons, Sem.run_bind, y1]
      simp only [Result.andThen]
      rw [Sem.run_bind, g1]
      rfl
    · cases i with
      | zero => simp at hi; subst hi; exact ⟨y, rfl, y2⟩
      | succ i => simpa using g3 i d' (by simpa using hi)

theorem results_ok (hE : TiOk E.P E.ti) {s : St} {a : Act} {w : World} {ρ : Nat → Nat} (R : Rel base F0 ρ s a w) {fn : Func} {rs : List D} (h : fn.results.toList.mapM (resultD E s) = some rs) :
    ∃ y, (results fn a.tmps).run E.P w = .ok y w ∧ RepD w base (Fb F0 ρ s.h) ρ s.h (tupD rs) y ∧
      ∃ ys : List Value, rs.length = ys.length ∧ (∀ (i : Nat) d, rs[i]? = some d → ∃ y, ys[i]? = some y ∧ RepD w base (Fb F0 ρ s.h) ρ s.h d y) ∧ (match ys with | [z] => y = z | _ => y = .tuple ys.toArray) := by
  obtain ⟨ys, g1, g2, g3⟩ := results_list hE R _ rs h
  have hrun : ∀ (k : Array Value → Sem Value), ((fn.results.mapM fun
      | .tmp t => pure (a.tmps.getD t undef)
      | .cell x t => do loadVar t (← asAddr (a.tmps.getD x undef)) : Sem (Array Value)) >>= k).run E.P w = (k ys.toArray).run E.P w := by
    intro k
    rw [Array.mapM_eq_mapM_toList, Sem.run_bind]
    have : (List.toArray <$> (fn.results.toList.mapM fun
      | .tmp t => pure (a.tmps.getD t undef)
      | .cell x t => do loadVar t (← asAddr (a.tmps.getD x undef)) : Sem (List Value)) : Sem (Array Value)).run E.P w = .ok ys.toArray w := by
      rw [← bind_pure_comp, Sem.run_bind, g1]
      rfl
    rw [this]
    rfl
  unfold results
  refine ⟨if h : ys.toArray.size = 1 then ys.toArray[0] else .tuple ys.toArray, ?_, ?_, ys, g2, g3, ?_⟩
  · exact hrun fun vs => pure (if h : vs.size = 1 then vs[0] else .tuple vs)
  · match ys, rs, g2, g3 with
    | [y], [d], _, g3 =>
      obtain ⟨y', e1, e2⟩ := g3 0 d rfl
      simp at e1
      subst e1
      exact e2
    | [], [], _, g3 => exact tup_rep rfl g3
    | y :: y2 :: ys, d :: d2 :: ds, g2, g3 =>
      rw [dif_neg (by simp)]
      exact tup_rep g2 g3
  · match ys with
    | [y] => rfl
    | [] => rfl
    | y :: y2 :: ys => simp

theorem ExtA.far {A : Nat → Prop} {w w1 : World} {ρ ρ' : Nat → Nat} {H H' : Heap} (R : HRel w base F0 ρ H) (h : ExtA A w ρ H w1 ρ' H') {D : Nat} {o o' : Obj} (hD : w.heap.size ≤ D) (ho : w1.heap[D]? = some o) (h1 : o.isCells = false) (h2 : o'.isCells = false) : ExtA A w ρ H (w1.putObj D o') ρ' H' :=
  ⟨h.os, h.tape, h.output, by rw [World.putObj_size]; exact h.size, fun b hb hn => (World.putObj_heap_other (by omega)).trans (h.same b hb hn), h.own, fun b hb => (obj_bsize ho h1 h2 b).trans (h.bs b hb), h.ids, fun k es hA hk => by
    obtain ⟨z1, z2⟩ := h.z k es hA hk
    have := R.lt k _ _ hk
    exact ⟨z1, (World.putObj_heap_other (by omega)).trans z2⟩⟩

/-- What a call of a function comes to. -/
def FnPost (base : Nat) (F0 : Nat → Prop) (A : Nat → Prop) (J : Heap → (Nat → Nat) → World → Prop) (w : World) (ρ : Nat → Nat) (H : Heap) (rs : List D) (H' : Heap) (e : Ending) (w' : World) : Prop :=
  ∃ y ρ', e = .returned y ∧ HRel w' base F0 ρ' H' ∧ ExtA A w ρ H w' ρ' H' ∧ J H' ρ' w' ∧ RepD w' base (Fb F0 ρ' H') ρ' H' (tupD rs) y ∧
      ∃ zs : List Value, rs.length = zs.length ∧ (∀ (i : Nat) d, rs[i]? = some d → ∃ y, zs[i]? = some y ∧ RepD w' base (Fb F0 ρ' H') ρ' H' d y) ∧ (match zs with | [z] => y = z | _ => y = .tuple zs.toArray)

theorem leave_marks (hE : TiOk E.P E.ti) {y : YldP} {A B : Nat → Prop} {J : Heap → (Nat → Nat) → World → Prop} (hY : YOk E.P base F0 y A B J) {w : World} {ρ ρ' : Nat → Nat} {H : Heap} (R0 : HRel w base F0 ρ H) {s : St} {a : Act} {fn : Func} {rs : List D} (hr : fn.results.toList.mapM (resultD E s) = some rs) : ∀ (bs : List Nat) (w1 : World),
    Rel base F0 ρ' s a w1 → J s.h ρ' w1 → ExtA A w ρ H w1 ρ' s.h → bs.Nodup → (∀ D ∈ bs, w.heap.size ≤ D ∧ D < w1.heap.size ∧ ¬ OwnB ρ' s.h D ∧ w1.heap[D]? = some (.deferred (some []))) →
    LeavesInM Fence.wide 0 E.P fn a.tmps (FnPost base F0 A J w ρ H rs s.h) (bs.map fun D => { target := .collected D, args := #[] }) .returning w1
  | [], w1, R, hJ, X, _, _ => by
    obtain ⟨y, y1, y2, y3⟩ := results_ok hE R hr
    exact ⟨y, y1, y, ρ', rfl, R.heap, X, hJ, y2, y3⟩
  | D :: bs, w1, R, hJ, X, hn, h => by
    obtain ⟨g1, g2, g3, g4⟩ := h D List.mem_cons_self
    obtain ⟨n1, n2⟩ := List.nodup_cons.1 hn
    refine ⟨by simp, .inl ⟨D, _, rfl, run_takeDeferred g4, ?_⟩⟩
    refine leave_marks hE hY R0 hr bs _ (R.obj g4 rfl rfl) (hY.obj _ _ _ _ _ _ R.heap hJ g4 rfl rfl fun k hk he => ?_) (X.far R0 g1 g4 rfl rfl) n2 fun D' hD' => ?_
    · obtain ⟨es, q⟩ := hY.lt _ _ _ k hJ hk
      exact g3 ⟨k, 0, es, q, he⟩
    · obtain ⟨q1, q2, q3, q4⟩ := h D' (List.mem_cons_of_mem _ hD')
      have hne : D' ≠ D := fun e => n1 (by rw [← e]; exact hD')
      exact ⟨q1, by rw [World.putObj_size]; exact q2, q3, (World.putObj_heap_other hne).trans q4⟩

theorem fn_ok (hO : E.Ok) (hcp : CpOk E.P cp) (hcf : CfOk E.P cf.f) (hrf : RfOk E.P cf.r) (hF : ∀ b, F0 b → b < base) {A B : Nat → Prop} {J : Heap → (Nat → Nat) → World → Prop} (hY : YOk E.P base F0 cf.y A B J) {m : Nat} {k : FuncId} {f : FI} (hf : E.fn k = some f) {args : List D} {H H' : Heap} {rs : List D} (h : evFn E cp cf m f args H = some (rs, H')) {w : World} {ρ : Nat → Nat}
    (hb : base ≤ w.heap.size) (R : HRel w base F0 ρ H) (hJ : J H ρ w) {ys : List Value} (hl : args.length = ys.length) (ha : ∀ (i : Nat) d, args[i]? = some d → ∃ y, ys[i]? = some y ∧ RepD w base (Fb F0 ρ H) ρ H d y) :
    Calls E.P k ys.toArray w (FnPost base F0 A J w ρ H rs H') := by
  obtain ⟨fn, f1, f2, f3, f4, f5⟩ := hO.fn k f hf
  unfold evFn at h
  simp only [Option.bind_eq_bind, Option.bind_eq_some_iff] at h
  obtain ⟨⟨ex, s⟩, h1, h2⟩ := h
  have R0 : Rel base F0 ρ { t := args ++ List.replicate (f.nt - args.length) undefD, h := H } { tmps := ys.toArray ++ Array.replicate (fn.ntmps - ys.toArray.size) undef, defers := [] } w := by
    refine ⟨R, ⟨rfl, by simp [hl, f4], fun i d hi => ?_⟩, hb⟩
    rw [List.getElem?_append] at hi
    simp only [Array.getElem?_append, List.size_toArray]
    rw [← hl]
    split at hi
    · rename_i hlt
      rw [if_pos hlt]
      simpa using ha i d hi
    · rename_i hlt
      rw [if_neg hlt, f4]
      rw [List.getElem?_replicate] at hi
      split at hi
      · rename_i hlt2
        cases hi
        exact ⟨undef, by simp [Array.getElem?_replicate, hlt2], rep_undef⟩
      · simp at hi
  have P0 : Pre w.heap.size base F0 J ρ { t := args ++ List.replicate (f.nt - args.length) undefD, h := H } { tmps := ys.toArray ++ Array.replicate (fn.ntmps - ys.toArray.size) undef, defers := [] } w := ⟨R0, hJ, ⟨[], rfl, List.nodup_nil, fun D hD => by simp at hD⟩, Nat.le_refl _⟩
  refine callsIn_wide.1 (callsIn_of_wp_marks (F := Fence.wide) (n := 0) f1 f3 trivial ?_)
  refine wpIn_mono (F := FR none) (evC_in hO.ti hcp hcf hrf hO.mixed hF m w.heap.size f.body A B J hY none 0 (fun l h => by cases h) _ ex s _ w ρ P0 h1) fun e a' w' ⟨he, ρ', P', X'⟩ => ?_
  subst he
  have fin : ∀ (_ : fn.results.toList.mapM (resultD E s) = some rs) (_ : s.h = H'), LeavesInM Fence.wide 0 E.P fn a'.tmps (FnPost base F0 A J w ρ H rs H') a'.defers .returning w' := by
    intro hr hh
    subst hh
    obtain ⟨bs, b1, b2, b3⟩ := P'.m
    rw [b1]
    exact leave_marks hO.ti hY R hr bs w' P'.r P'.j X' b2 b3
  cases ex with
  | normal =>
    simp only [Option.bind_eq_some_iff, Option.some.injEq, Prod.mk.injEq] at h2
    obtain ⟨r, g1, rfl, rfl⟩ := h2
    exact fin (by rw [f5]; exact g1) rfl
  | ret =>
    simp only [Option.bind_eq_some_iff, Option.some.injEq, Prod.mk.injEq] at h2
    obtain ⟨r, g1, rfl, rfl⟩ := h2
    exact fin (by rw [f5]; exact g1) rfl
  | exit id => simp at h2

theorem hrel_nil (w : World) (base : Nat) (F0 : Nat → Prop) (ρ : Nat → Nat) (hL : LD base w) : HRel w base F0 ρ [] :=
  ⟨fun k sz es h => by simp at h, fun k k' sz es sz' es' h => by simp at h, fun k sz es h => by simp at h, fun k sz es h => by simp at h, fun k sz es h => by simp at h, fun k sz es h => by simp at h, hL⟩

theorem pureFn_ok (hO : E.Ok) (hcp : CpOk E.P cp) (hcf : CfOk E.P cf.f) (hrf : RfOk E.P cf.r) (hy : cf.y = noY) {m : Nat} {k : FuncId} {f : FI} (hf : E.fn k = some f) {vs : List TD} {kind : Kind} {tds : List TD} (h : pureFn E cp cf m f vs = some (kind, tds)) : PureOk E.P k vs kind tds := by
  intro w F ys hL hFlt hargs
  unfold pureFn at h
  simp only [Option.bind_eq_bind, Option.bind_eq_some_iff, Option.some.injEq, Prod.mk.injEq] at h
  obtain ⟨⟨rs, H'⟩, h1, l, h2, h3, h4⟩ := h
  have hY : YOk E.P w.heap.size F cf.y noA noA fun _ _ _ => True := by rw [hy]; exact yOk_none
  have hcall := fn_ok (base := w.heap.size) (F0 := F) hO hcp hcf hrf hFlt hY hf h1 (w := w) (ρ := fun _ => 0) (Nat.le_refl _) (hrel_nil _ _ _ _ hL) trivial (ys := ys) (by simpa using hargs.1) (fun i d hi => by
    simp only [List.getElem?_map, Option.map_eq_some_iff] at hi
    obtain ⟨td, t1, rfl⟩ := hi
    obtain ⟨y, y1, y2⟩ := hargs.2 i td t1
    refine ⟨y, y1, unview_rep (fun b hb => ?_) y2⟩
    rcases hb with (hb | ⟨k, sz, es, q1, q2⟩) | hb
    · exact hb
    · simp at q1
    · simp at hb)
  refine hcall.mono fun e w' ⟨y, ρ', he, R', X', _, _, zs, z1, z2, z3⟩ => ⟨y, he, ?_, fun hk => ?_, ?_⟩
  · obtain ⟨m1, m2, m3⟩ := mapM_get h2
    have hreps : RepTDs w' (fun b => b < w.heap.size ∧ (kind ≠ .any ∨ F b)) tds zs := by
      refine ⟨by rw [← h4, ← z1]; simp [m1], fun i td hi => ?_⟩
      rw [← h4] at hi
      simp only [List.getElem?_map, Option.map_eq_some_iff] at hi
      obtain ⟨⟨pb, ptd⟩, p1, rfl⟩ := hi
      obtain ⟨d, d1, d2⟩ := m3 i _ p1
      obtain ⟨y', y1, y2⟩ := z2 i d d1
      have := viewD_new R' d2 y2
      refine ⟨y', y1, ?_⟩
      have hsub : ∀ q, (q < w.heap.size ∧ (kind ≠ .any ∨ F q)) → (q < w.heap.size ∧ (pb = true ∨ F q)) := fun q hq => ⟨hq.1, hq.2.imp (fun hb => by
        have hall : l.all (·.1) = true := by
          rw [← h3] at hb
          by_cases ho : ownRes H' rs = true
          · unfold ownRes at ho
            split at ho
            · rename_i kk nn _ _
              cases hg : getBlk H' kk with
              | none => rw [hg] at ho; simp at ho
              | some p =>
                obtain ⟨bz, es⟩ := p
                rw [hg] at ho
                simp only [Bool.and_eq_true, beq_iff_eq] at ho
                simp only [List.mapM_cons, List.mapM_nil, Option.bind_eq_bind, Option.pure_def, Option.bind_eq_some_iff, Option.some.injEq] at h2
                obtain ⟨v, v1, _, rfl, rfl⟩ := h2
                simp only [List.all_cons, List.all_nil, Bool.and_true]
                simp only [viewD, view, hg, Option.bind_eq_bind, Option.bind_some, Option.bind_eq_some_iff, Option.some.injEq] at v1
                obtain ⟨q2, ⟨es', c1, r, c2, rfl⟩, rfl⟩ := v1
                simp only [List.all_eq_true]
                intro x hx z hz
                obtain ⟨n1, n2, n3⟩ := mapM_get c2
                obtain ⟨i, hi, rfl⟩ := List.getElem_of_mem hx
                obtain ⟨y0, y1, y2⟩ := n3 i _ (List.getElem?_eq_getElem hi)
                obtain ⟨j, hj, rfl⟩ := List.getElem_of_mem hz
                obtain ⟨_, _, k3⟩ := mapM_get y2
                obtain ⟨cc, d1, d2⟩ := k3 j _ (List.getElem?_eq_getElem hj)
                obtain ⟨_, l2⟩ := cut_get c1 y1
                have hp := List.all_eq_true.1 (List.all_eq_true.1 ho.2 y0 (List.mem_of_getElem? l2)) cc (List.mem_of_getElem? d1)
                unfold plainB at hp
                split at hp
                · simp only [view, Option.some.injEq] at d2; rw [← d2]
                · simp at hp
            · simp at ho
          · rw [if_neg ho] at hb
            by_cases ha : l.all (·.1) = true
            · exact ha
            · rw [if_neg ha] at hb; simp at hb
        exact List.all_eq_true.1 hall (pb, ptd) (List.mem_of_getElem? p1)) id⟩
      simp only
      cases this with
      | one t y h => exact .one _ _ (h.weak hsub)
      | agg ts ys h => exact .agg _ _ (h.weak fun t y h => h.weak hsub)
    have hlen : tds.length = zs.length := hreps.1
    match tds, zs, hlen, hreps, z3 with
    | [td], [z], _, hreps, z3 =>
      obtain ⟨z', e1, e2⟩ := hreps.2 0 td rfl
      simp at e1
      subst e1
      subst z3
      exact e2
    | [], [], _, hreps, z3 => exact ⟨[], z3, hreps⟩
    | t1 :: t2 :: ts, q1 :: q2 :: qs, _, hreps, z3 => exact ⟨_, z3, hreps⟩
  · have ho : ownRes H' rs = true := by
      by_cases ho : ownRes H' rs = true
      · exact ho
      · rw [if_neg ho] at h3
        split at h3 <;> (rw [hk] at h3; simp at h3)
    unfold ownRes at ho
    split at ho
    · rename_i kk nn _ _
      cases hg : getBlk H' kk with
      | none => rw [hg] at ho; simp at ho
      | some p =>
        obtain ⟨bz, es⟩ := p
        rw [hg] at ho
        simp only [Bool.and_eq_true, beq_iff_eq] at ho
        obtain ⟨hnn, hpl⟩ := ho
        have hb := getBlk_some hg
        simp only [List.mapM_cons, List.mapM_nil, Option.bind_eq_bind, Option.pure_def, Option.bind_eq_some_iff, Option.some.injEq] at h2
        obtain ⟨v, v1, _, rfl, rfl⟩ := h2
        simp only [viewD, view, hg, Option.bind_eq_bind, Option.bind_some, Option.bind_eq_some_iff, Option.some.injEq] at v1
        obtain ⟨q2, ⟨es', c1, r, c2, rfl⟩, rfl⟩ := v1
        obtain ⟨y0, y1, y2⟩ := z2 0 _ rfl
        match zs, z1, y1, z3 with
        | [z], _, y1, z3 =>
          simp at y1
          subst y1
          subst z3
          obtain ⟨s1, s2, s3⟩ := cut_some c1
          obtain ⟨n1, n2, n3⟩ := mapM_get c2
          have hlen : (r.map (·.map (·.2))).length = nn := by simp [n1, s1]
          cases y2 with
          | one c y hc =>
            cases hc with
            | own _ _ _ cap aa hkk hcap haa =>
              obtain ⟨a1, a2⟩ := haa _ _ hb
              simp only [Nat.zero_mul, Nat.zero_add] at a1 a2
              subst a1
              have hlo := R'.lo kk bz es hb
              refine ⟨ρ' kk, cap, bz, r.map (·.map (·.2)), by rw [← h4]; rfl, by rw [hlen], by rw [hlen]; exact hcap, hlo.1, hlo.2, a2, R'.fz kk bz es hb, fun i e hi => ?_, fun i j e t hi hj => ?_⟩
              · simp only [List.getElem?_map, Option.map_eq_some_iff] at hi
                obtain ⟨q, q1, rfl⟩ := hi
                obtain ⟨x, x1, x2⟩ := n3 i q q1
                obtain ⟨_, l2⟩ := cut_get c1 x1
                have := R'.wid kk bz es hb _ x l2
                simp [(mapM_get x2).1, this]
              · simp only [List.getElem?_map, Option.map_eq_some_iff] at hi
                obtain ⟨q, q1, rfl⟩ := hi
                simp only [List.getElem?_map, Option.map_eq_some_iff] at hj
                obtain ⟨p, p1, rfl⟩ := hj
                obtain ⟨x, x1, x2⟩ := n3 i q q1
                obtain ⟨_, l2⟩ := cut_get c1 x1
                rw [Nat.zero_add] at l2
                obtain ⟨_, _, k3⟩ := mapM_get x2
                obtain ⟨cc, d1, d2⟩ := k3 j p p1
                have hp := List.all_eq_true.1 (List.all_eq_true.1 hpl x (List.mem_of_getElem? l2)) cc (List.mem_of_getElem? d1)
                obtain ⟨yy, f1, f2⟩ := R'.cell kk bz es hb i j x cc l2 d1
                unfold plainB at hp
                split at hp
                · rename_i vv
                  simp only [view, Option.some.injEq] at d2
                  rw [← d2]
                  have := plainC_rep (x := vv) f2 rfl
                  subst this
                  exact ⟨_, rfl, f2.one, f1⟩
                · simp at hp
    · simp at ho
  · exact ⟨X'.os, X'.tape, X'.output, X'.size, fun b hb => X'.same b hb fun ⟨k, sz, es, q1, _⟩ => by simp at q1⟩

theorem callersN_ok (hO : E.Ok) (m : Nat) : ∀ n, CpOk E.P (callersN E m n).1 ∧ CfOk E.P (callersN E m n).2.1 ∧ RfOk E.P (callersN E m n).2.2
  | 0 => ⟨fun k vs kind rs h => by simp [callersN] at h, fun k args H v H' h => by simp [callersN] at h, fun y f args H H' h => by simp [callersN] at h⟩
  | n + 1 => by
    obtain ⟨i1, i2, i3⟩ := callersN_ok hO m n
    have hent : ∀ k f, E.fn k = some f → Enters E.P k := fun k f h => by
      obtain ⟨fn, f1, f2, f3, f4, f5⟩ := hO.fn k f h
      exact ⟨fn, f.body, f1, f2, f3⟩
    refine ⟨fun k vs kind rs h => ?_, fun k args H v H' h => ?_, fun y k args H H' h => ?_⟩
    · simp only [callersN] at h
      split at h
      · rename_i F hF
        exact hO.ax k F vs kind rs hF h
      · simp only [Option.bind_eq_bind, Option.bind_eq_some_iff] at h
        obtain ⟨f, h1, h2⟩ := h
        exact ⟨pureFn_ok (cf := ⟨_, _, noY⟩) hO i1 i2 i3 rfl h1 h2, hent k f h1⟩
    · simp only [callersN, Option.bind_eq_bind, Option.bind_eq_some_iff, Option.some.injEq, Prod.mk.injEq] at h
      obtain ⟨f, h1, ⟨rs, h0⟩, h2, rfl, rfl⟩ := h
      refine ⟨hent k f h1, fun w base F0 ρ ys hb hF R hl ha => ?_⟩
      exact (fn_ok (cf := ⟨_, _, noY⟩) hO i1 i2 i3 hF yOk_none h1 h2 hb R trivial hl ha).mono fun e w' ⟨y, ρ', q1, q2, q3, _, q4, _⟩ => ⟨y, ρ', q1, q2, q3, q4⟩
    · simp only [callersN, Option.bind_eq_bind, Option.bind_eq_some_iff, Option.some.injEq, Prod.mk.injEq] at h
      obtain ⟨f, h1, ⟨rs, h0⟩, h2, rfl⟩ := h
      refine ⟨hent k f h1, fun base F0 A B J hY hF w ρ ys hb R hJ hl ha => ?_⟩
      exact (fn_ok (cf := ⟨_, _, y⟩) hO i1 i2 i3 hF hY h1 h2 hb R hJ hl ha).mono fun e w' ⟨y, ρ', q1, q2, q3, q4, _⟩ => ⟨y, ρ', q1, q2, q3, q4⟩
theorem callers_ok (hO : E.Ok) (m n : Nat) : CpOk E.P (callers E m n).1 ∧ CfOk E.P (callers E m n).2.f :=
  let h := callersN_ok hO m n
  ⟨h.1, h.2.1⟩

/-- WHAT THE EVALUATOR FINDS OF A FUNCTION, A CALL DOES. -/
theorem found (hO : E.Ok) {m n : Nat} {k : FuncId} {vs : List TD} {kind : Kind} {rs : List TD} (h : (callers E m n).1 k vs = some (kind, rs)) : PureOk E.P k vs kind rs := ((callers_ok hO m n).1 k vs kind rs h).1
end
end Ev
end Go.Proofs.YtjomjfjbpcafhaaDoor
