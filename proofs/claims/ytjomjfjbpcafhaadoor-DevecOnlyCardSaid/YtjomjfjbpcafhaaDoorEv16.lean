/- Arguments of any plain types, as data; and a law's call, out of what the evaluator finds. No program is named here. -/
import Derived.Deep.Slices
import Derived.OpenShut
import Derived.WideShapes
import Derived.ChangeShapes
import Derived.Test.YtjomjfjbpcafhaaDoorEv15
namespace Go.Proofs.YtjomjfjbpcafhaaDoor
namespace Ev
open Go Go.RowKit
set_option linter.unusedVariables false
set_option linter.unusedSimpArgs false

/-- Cells of a type. -/
inductive Typ (P : Program) : TypeId → List T → Prop
  | bool (t : TypeId) (b : Bool) (h : P.underlying t = some .bool) : Typ P t [.v (.bool b)]
  | int (t : TypeId) (k : IntKind) (n : Int) (h : P.underlying t = some (.int k)) (hw : (Lit.int k n).wf = true) : Typ P t [.v (.int k n)]
  | str (t : TypeId) (s : ByteArray) (h : P.underlying t = some .string) (hs : s.size ≤ maxLen) : Typ P t [.v (.string s)]
  | slice (t e : TypeId) (nn : Bool) (l : List (List T)) (h : P.underlying t = some (.slice e)) (hn : nn = false → l = []) (hl : l.length ≤ maxLen) (he : ∀ es ∈ l, es.length = P.cellsOf e) (ht : ∀ es ∈ l, Typ P e es) : Typ P t [.s nn (P.cellsOf e) l]
  | struct (t : TypeId) (fs : Array Field) (tss : List (List T)) (h : P.underlying t = some (.struct fs)) (hl : tss.length = fs.size) (hf : ∀ (i : Nat) f ts, fs[i]? = some f → tss[i]? = some ts → Typ P f.type ts) : Typ P t tss.flatten
  | array (t : TypeId) (n : Nat) (e : TypeId) (tss : List (List T)) (h : P.underlying t = some (.array n e)) (hl : tss.length = n) (hf : ∀ ts ∈ tss, Typ P e ts) : Typ P t tss.flatten

/-- The fields of a struct, one behind the other. -/
def contig (P : Program) : Nat → List Field → Nat → Bool
  | o, [], n => o == n
  | o, f :: fs, n => f.offset == o && contig P (o + P.cellsOf f.type) fs n
def plainTy (P : Program) : Nat → TypeId → Bool
  | 0, _ => false
  | d + 1, t =>
    match P.underlying t with
    | some .bool | some (.int _) | some .string => P.cellsOf t == 1
    | some (.slice e) => P.cellsOf t == 1 && plainTy P d e
    | some (.struct fs) => contig P 0 fs.toList (P.cellsOf t) && fs.toList.all fun f => plainTy P d f.type
    | some (.array n e) => n * P.cellsOf e == P.cellsOf t && plainTy P d e
    | _ => false

section
variable {H : Type} {enc : TypeId × Value → H} {P : Program} {w : World}

theorem repTs_append {F : Nat → Prop} {a b : List T} {x y : List Value} (h1 : RepTs w F a x) (h2 : RepTs w F b y) : RepTs w F (a ++ b) (x ++ y) := by
  refine ⟨by simp [h1.1, h2.1], fun i t hi => ?_⟩
  rw [List.getElem?_append] at hi
  rw [List.getElem?_append, ← h1.1]
  split at hi
  · rename_i hlt; rw [if_pos hlt]; exact h1.2 i t hi
  · rename_i hlt; rw [if_neg hlt]; exact h2.2 _ t hi
theorem drop_split {α : Type} (l : List α) (o n : Nat) : l.drop o = (l.drop o).take n ++ l.drop (o + n) := by
  rw [← List.drop_drop]; exact (List.take_append_drop n (l.drop o)).symm

theorem open_fields {Q : TypeId → List T → Prop} : ∀ (fs : List Field) (o n : Nat) (cs : List Value), contig P o fs n = true → cs.length = n → (∀ f ∈ fs, ∃ ts, RepTs w (fun _ => False) ts ((cs.drop f.offset).take (P.cellsOf f.type)) ∧ Q f.type ts) →
    ∃ tss : List (List T), tss.length = fs.length ∧ RepTs w (fun _ => False) tss.flatten (cs.drop o) ∧ ∀ (i : Nat) f ts, fs[i]? = some f → tss[i]? = some ts → Q f.type ts
  | [], o, n, cs, hc, hl, h => by
    simp only [contig, beq_iff_eq] at hc
    refine ⟨[], rfl, ⟨by simp; omega, fun i t hi => by simp at hi⟩, fun i f ts hi => by simp at hi⟩
  | f :: fs, o, n, cs, hc, hl, h => by
    simp only [contig, Bool.and_eq_true, beq_iff_eq] at hc
    obtain ⟨rfl, hc2⟩ := hc
    obtain ⟨ts, h1, h2⟩ := h f List.mem_cons_self
    obtain ⟨tss, g1, g2, g3⟩ := open_fields fs _ n cs hc2 hl fun f' hf' => h f' (List.mem_cons_of_mem _ hf')
    refine ⟨ts :: tss, by simp [g1], ?_, fun i f' ts' hi hj => ?_⟩
    · rw [List.flatten_cons, drop_split cs f.offset (P.cellsOf f.type)]
      exact repTs_append h1 g2
    · cases i with
      | zero => simp at hi hj; subst hi hj; exact h2
      | succ i => exact g3 i f' ts' (by simpa using hi) (by simpa using hj)
theorem open_items {Q : List T → Prop} {z : Nat} : ∀ (n o : Nat) (cs : List Value), cs.length = (o + n) * z → (∀ i, o ≤ i → i < o + n → ∃ ts, RepTs w (fun _ => False) ts ((cs.drop (i * z)).take z) ∧ Q ts) →
    ∃ tss : List (List T), tss.length = n ∧ RepTs w (fun _ => False) tss.flatten (cs.drop (o * z)) ∧ ∀ ts ∈ tss, Q ts
  | 0, o, cs, hl, h => ⟨[], rfl, ⟨by simp; rw [Nat.add_zero] at hl; omega, fun i t hi => by simp at hi⟩, fun ts hi => by simp at hi⟩
  | n + 1, o, cs, hl, h => by
    obtain ⟨ts, h1, h2⟩ := h o (Nat.le_refl _) (by omega)
    obtain ⟨tss, g1, g2, g3⟩ := open_items n (o + 1) cs (by rw [hl]; congr 1; omega) fun i hi hj => h i (by omega) (by omega)
    refine ⟨ts :: tss, by simp [g1], ?_, fun ts' ht => ?_⟩
    · rw [List.flatten_cons, drop_split cs (o * z) z, ← Nat.succ_mul]
      exact repTs_append h1 g2
    · rcases List.mem_cons.1 ht with h | h
      · subst h; exact h2
      · exact g3 ts' h

theorem one_rep {F : Nat → Prop} {t : T} {y : Value} (h : RepT w F t y) : RepTs w F [t] [y] :=
  ⟨rfl, fun i t' hi => by cases i with | zero => simp at hi; subst hi; exact ⟨y, rfl, h⟩ | succ i => simp at hi⟩

/-- What can be read of a plain type is data. -/
theorem open_cells {spare : Nat → Bool} {held : Bool} : ∀ (d : Nat) (t : TypeId) (fuel : Nat) (cs : List Value) (x : DataW H × List MemPlace), plainTy P d t = true → DataW.trod enc P w 0 spare held fuel t cs = some x →
    ∃ ts, RepTs w (fun _ => False) ts cs ∧ Typ P t ts ∧ ts.length = P.cellsOf t := by
  intro d
  induction d with
  | zero => intro t fuel cs x hp; simp [plainTy] at hp
  | succ d ih =>
    intro t fuel cs x hp h
    unfold plainTy at hp
    split at hp
    · rename_i hu
      obtain ⟨b, rfl, _⟩ := DataW.trod_bool hu h
      exact ⟨_, one_rep (.v _ rfl), .bool t b hu, by simp at hp; simp [hp]⟩
    · rename_i k hu
      obtain ⟨n, rfl, _, hw⟩ := DataW.trod_int hu h
      exact ⟨_, one_rep (.v _ rfl), .int t k n hu hw, by simp at hp; simp [hp]⟩
    · rename_i hu
      obtain ⟨s, rfl, _, hs⟩ := DataW.trod_string hu h
      exact ⟨_, one_rep (.v _ rfl), .str t s hu hs, by simp at hp; simp [hp]⟩
    · rename_i e hu
      simp only [Bool.and_eq_true, beq_iff_eq] at hp
      rcases Go.Deep.open_slice hu h with ⟨rfl, _⟩ | ⟨a, len, cap, m, n, Dd, Pl, rfl, _, hl, hcm, hm, _, hx⟩
      · refine ⟨[.s false (P.cellsOf e) []], one_rep (.s false _ [] none 0 (fun _ _ => .nilFunc) rfl (Nat.le_refl _) (fun _ => rfl) (fun i e h => by simp at h) (fun i e j t h => by simp at h) fun i e j t h => by simp at h), .slice t e false [] hu (fun _ => rfl) (by simp) (fun es h => by simp at h) (fun es h => by simp at h), by simp [hp.1]⟩
      · have hlm : len ≤ m := by subst hm; split <;> omega
        have each : ∀ i : Nat, ∃ (cs' : List Value) (ts : List T), i < len → w.cells? 0 (a.add (i * P.cellsOf e)) (P.cellsOf e) = some cs' ∧ RepTs w (fun _ => False) ts cs' ∧ Typ P e ts ∧ ts.length = P.cellsOf e := by
          intro i
          by_cases hi : i < len
          · obtain ⟨cs', h1, h2⟩ := hx i (by omega)
            obtain ⟨ts, g1, g2, g3⟩ := ih e n cs' _ hp.2 h2
            exact ⟨cs', ts, fun _ => ⟨h1, g1, g2, g3⟩⟩
          · exact ⟨[], [], fun hh => absurd hh hi⟩
        let V : Nat → List Value := fun i => (each i).choose
        let L : Nat → List T := fun i => (each i).choose_spec.choose
        have hf : ∀ i, i < len → w.cells? 0 (a.add (i * P.cellsOf e)) (P.cellsOf e) = some (V i) ∧ RepTs w (fun _ => False) (L i) (V i) ∧ Typ P e (L i) ∧ (L i).length = P.cellsOf e := fun i hi => (each i).choose_spec.choose_spec hi
        have hget : ∀ (i : Nat) es, ((List.range len).map L)[i]? = some es → i < len ∧ es = L i := fun i es hi => by
          obtain ⟨hlt, h1⟩ := List.getElem?_eq_some_iff.1 hi
          simp at hlt h1
          exact ⟨hlt, h1.symm⟩
        have hlen : ((List.range len).map L).length = len := by simp
        have hs := RepT.s (w := w) (F := fun _ => False) true (P.cellsOf e) ((List.range len).map L) (some a) cap (fun i j => (V i).getD j .nilFunc) rfl (by rw [hlen]; exact hl) (fun h => by cases h)
          (fun i es hi => by obtain ⟨h1, rfl⟩ := hget i es hi; exact (hf i h1).2.2.2)
          (fun i es j t hi hj => by
            obtain ⟨h1, rfl⟩ := hget i es hi
            obtain ⟨q1, q2, q3, q4⟩ := hf i h1
            obtain ⟨c1, c2, c3⟩ := World.cells?_some q1
            obtain ⟨y, y1, y2⟩ := q2.2 j t hj
            have hjl := (List.getElem?_eq_some_iff.1 y1).1
            have hcell := c3 j (by omega)
            rw [y1, add_add] at hcell
            refine ⟨a, rfl, ?_, fun h => h, by rw [hcell]; simp [List.getD_eq_getElem?_getD, y1]⟩
            have := blk_of_cell hcell
            rwa [show (a.add (i * P.cellsOf e + j)).block = a.block by unfold Addr.add; split <;> rfl] at this)
          (fun i es j t hi hj => by
            obtain ⟨h1, rfl⟩ := hget i es hi
            obtain ⟨q1, q2, q3, q4⟩ := hf i h1
            obtain ⟨y, y1, y2⟩ := q2.2 j t hj
            simpa [List.getD_eq_getElem?_getD, y1] using y2)
        rw [hlen] at hs
        refine ⟨_, one_rep hs, .slice t e true _ hu (fun h => by cases h) (by rw [hlen]; omega) (fun es he => ?_) (fun es he => ?_), by simp [hp.1]⟩
        · obtain ⟨i, hi, rfl⟩ := List.mem_map.1 he
          exact (hf i (by simpa using hi)).2.2.2
        · obtain ⟨i, hi, rfl⟩ := List.mem_map.1 he
          exact (hf i (by simpa using hi)).2.2.1
    · rename_i fs hu
      simp only [Bool.and_eq_true, List.all_eq_true] at hp
      obtain ⟨xs, n, _, _, hcl, hxl, hxs⟩ := DataW.trod_struct hu h
      obtain ⟨tss, g1, g2, g3⟩ := open_fields (P := P) (w := w) (Q := fun t ts => Typ P t ts) fs.toList 0 (P.cellsOf t) cs hp.1 hcl (fun f hf => by
        obtain ⟨i, hi, rfl⟩ := List.getElem_of_mem hf
        have hi2 : i < xs.length := by rw [hxl]; simpa using hi
        have := hxs i fs.toList[i] (by rw [← Array.getElem?_toList]; simp)
        rw [List.getElem?_eq_getElem hi2] at this
        obtain ⟨ts, k1, k2, k3⟩ := ih _ _ _ _ (hp.2 _ hf) this
        exact ⟨ts, k1, k2⟩)
      rw [List.drop_zero] at g2
      exact ⟨_, g2, .struct t fs tss hu (by simpa using g1) (fun i f ts hi hj => g3 i f ts (by simpa using hi) hj), by rw [g2.1]; exact hcl⟩
    · rename_i n e hu
      simp only [Bool.and_eq_true, beq_iff_eq] at hp
      obtain ⟨xs, m, _, _, hcl, hxl, hxs⟩ := DataW.trod_array hu h
      obtain ⟨tss, g1, g2, g3⟩ := open_items (w := w) (Q := fun ts => Typ P e ts) (z := P.cellsOf e) n 0 cs (by rw [hcl, ← hp.1]; simp) (fun i _ hi => by
        have := hxs i (by omega)
        have hi2 : i < xs.length := by omega
        rw [List.getElem?_eq_getElem hi2] at this
        obtain ⟨ts, k1, k2, k3⟩ := ih _ _ _ _ hp.2 this
        exact ⟨ts, k1, k2⟩)
      rw [Nat.zero_mul, List.drop_zero] at g2
      exact ⟨_, g2, .array t n e tss hu g1 g3, by rw [g2.1]; exact hcl⟩
    · simp at hp

/-- A datum of a type. -/
inductive TypD (P : Program) : TypeId → TD → Prop
  | agg (t : TypeId) (ts : List T) (h : Typ P t ts) (ha : ∃ d, P.underlying t = some d ∧ isAggD d = true) : TypD P t (.agg ts)
  | one (t : TypeId) (x : T) (h : Typ P t [x]) (ha : ∃ d, P.underlying t = some d ∧ isAggD d = false) : TypD P t (.one x)
inductive TypDs (P : Program) : List TypeId → List TD → Prop
  | nil : TypDs P [] []
  | cons (t : TypeId) (ts : List TypeId) (d : TD) (ds : List TD) (h : TypD P t d) (hr : TypDs P ts ds) : TypDs P (t :: ts) (d :: ds)

theorem open_value {d : Nat} {base : Nat} {t : TypeId} {v : Value} {x : DataW H} {ps : List MemPlace} (hp : plainTy P d t = true) (hv : Value.okWide P w .any base t v) (h : DataW.Trod enc P w 0 (fun _ => true) true t v x ps) : ∃ td, RepTD w (fun _ => False) td v ∧ TypD P t td := by
  obtain ⟨fuel, hf⟩ := h
  obtain ⟨ts, h1, h2, h3⟩ := open_cells d t fuel _ _ hp hf
  have hone : ∀ y, v = y → y.cells = #[y] → P.cellsOf t = 1 → (∃ d, P.underlying t = some d ∧ isAggD d = false) → ∃ td, RepTD w (fun _ => False) td v ∧ TypD P t td := by
    intro y hy hc hz ha
    subst hy
    rw [hz] at h3
    match ts, h3 with
    | [x], _ =>
      obtain ⟨y, y1, y2⟩ := h1.2 0 x rfl
      rw [hc] at y1
      simp at y1
      subst y1
      exact ⟨.one x, .one _ _ y2, .one _ _ h2 ha⟩
  cases d with
  | zero => simp [plainTy] at hp
  | succ d =>
    unfold plainTy at hp
    split at hp
    · rename_i hu
      obtain ⟨b, rfl⟩ := Go.WideShapes.okWide_bool hu hv
      exact hone _ rfl rfl (by simpa using hp) ⟨_, hu, rfl⟩
    · rename_i k hu
      obtain ⟨n, rfl⟩ := Go.WideShapes.okWide_int hu hv
      exact hone _ rfl rfl (by simpa using hp) ⟨_, hu, rfl⟩
    · rename_i hu
      obtain ⟨s, rfl⟩ := Go.WideShapes.okWide_string hu hv
      exact hone _ rfl rfl (by simpa using hp) ⟨_, hu, rfl⟩
    · rename_i e hu
      obtain ⟨a, n, c, rfl⟩ := Go.WideShapes.okWide_slice hu hv
      simp only [Bool.and_eq_true, beq_iff_eq] at hp
      exact hone _ rfl rfl hp.1 ⟨_, hu, rfl⟩
    · rename_i fs hu
      unfold Value.okWide at hv
      rw [hu] at hv
      obtain ⟨cs, rfl, _⟩ := hv
      refine ⟨.agg ts, ?_, .agg _ _ h2 ⟨_, hu, rfl⟩⟩
      have := RepTD.agg ts cs.toList h1
      simpa using this
    · rename_i n e hu
      unfold Value.okWide at hv
      rw [hu] at hv
      obtain ⟨cs, rfl, _⟩ := hv
      refine ⟨.agg ts, ?_, .agg _ _ h2 ⟨_, hu, rfl⟩⟩
      have := RepTD.agg ts cs.toList h1
      simpa using this
    · simp at hp
theorem open_args {d : Nat} {base : Nat} : ∀ {ts : List TypeId} {vs : List Value} {ds : List (DataW H)} {ps : List MemPlace}, (∀ t ∈ ts, plainTy P d t = true) → DataW.TrodAll enc P w 0 (fun _ => true) true ts vs ds ps →
    (∀ (j : Nat) t v, ts[j]? = some t → vs[j]? = some v → Value.okWide P w .any base t v) → ∃ tds, RepTDs w (fun _ => False) tds vs ∧ TypDs P ts tds
  | [], [], [], ps, _, _, _ => ⟨[], ⟨rfl, fun i t h => by simp at h⟩, .nil⟩
  | t :: ts, v :: vs, x :: ds, ps, hp, h, hv => by
    obtain ⟨p, q, h1, h2, _⟩ := h
    obtain ⟨td, g1, g2⟩ := open_value (hp t List.mem_cons_self) (hv 0 t v rfl rfl) h1
    obtain ⟨tds, k1, k2⟩ := open_args (fun t ht => hp t (List.mem_cons_of_mem _ ht)) h2 fun j t v hj hjv => hv (j + 1) t v (by simpa using hj) (by simpa using hjv)
    refine ⟨td :: tds, ⟨by simp [k1.1], fun i t' hi => ?_⟩, .cons _ _ _ _ g2 k2⟩
    cases i with
    | zero => simp at hi; subst hi; exact ⟨v, rfl, g1⟩
    | succ i => simpa using k1.2 i t' (by simpa using hi)
  | [], _ :: _, _, _, _, h, _ => h.elim
  | [], [], _ :: _, _, _, h, _ => h.elim
  | _ :: _, [], _, _, _, h, _ => h.elim
  | _ :: _, _ :: _, [], _, _, h, _ => h.elim

/-- A LAW'S CALL: true, and nothing that was there has turned. -/
theorem law_call {E : Env} (hO : E.Ok) (hL : LD w.heap.size w) {d k base : Nat} {ts : List TypeId} {vs : List Value} {ds : List (DataW H)} {ps : List MemPlace} (hp : ∀ t ∈ ts, plainTy E.P d t = true) (hA : DataW.TrodAll enc E.P w 0 (fun _ => true) true ts vs ds ps)
    (hv : ∀ (j : Nat) t v, ts[j]? = some t → vs[j]? = some v → Value.okWide E.P w .any base t v) (hlaw : ∀ tds, TypDs E.P ts tds → ∃ m n kind, (callers E m n).1 k tds = some (kind, [.one (.v (.bool true))])) :
    Calls E.P k vs.toArray w fun e w' => e = .returned (.bool true) ∧ Below w.heap.size w w' := by
  obtain ⟨tds, h1, h2⟩ := open_args hp hA hv
  obtain ⟨m, n, kind, h3⟩ := hlaw tds h2
  refine (found hO h3 w (fun _ => False) vs hL (fun _ h => h.elim) h1).mono fun e w' ⟨y, he, hr, _, hb⟩ => ⟨?_, hb⟩
  subst he
  cases hr with
  | one t y h => cases h with | v x hx => rfl
end
end Ev
end Go.Proofs.YtjomjfjbpcafhaaDoor
