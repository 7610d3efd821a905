/- Calls that are known by what they were handed: entries of an environment, so that a long evaluation goes in parts. No program is named here. -/
import Derived.Test.YtjomjfjbpcafhaaDoorEv17
namespace Go.Proofs.YtjomjfjbpcafhaaDoor
namespace Ev
open Go
set_option linter.unusedVariables false
mutual
def beqT : T → T → Bool
 | .v (.int k a), .v (.int k' b) => decide (k = k') && decide (a = b)
 | .v (.bool a), .v (.bool b) => a == b
 | .s n z l, .s n' z' l' => (n == n') && (Nat.beq z z' && beqR l l')
 | _, _ => false
def beqL : List T → List T → Bool
 | [], [] => true
 | a :: l, b :: m => beqT a b && beqL l m
 | _, _ => false
def beqR : List (List T) → List (List T) → Bool
 | [], [] => true
 | a :: l, b :: m => beqL a b && beqR l m
 | _, _ => false
end
mutual
theorem beqT_eq : ∀ (a b : T), beqT a b = true → a = b
 | .v x, .v y, h => by
  cases x <;> cases y <;> first
   | (simp only [beqT, Bool.and_eq_true, decide_eq_true_eq] at h; obtain ⟨rfl, rfl⟩ := h; rfl)
   | (simp only [beqT, beq_iff_eq] at h; subst h; rfl)
   | (simp [beqT] at h)
 | .v x, .s n z l, h => by cases x <;> simp [beqT] at h
 | .s n z l, .v x, h => by cases x <;> simp [beqT] at h
 | .s n z l, .s n' z' l', h => by
  simp only [beqT, Bool.and_eq_true, beq_iff_eq] at h
  obtain ⟨rfl, h1, h2⟩ := h
  obtain rfl := Nat.eq_of_beq_eq_true h1
  rw [beqR_eq l l' h2]
theorem beqL_eq : ∀ (a b : List T), beqL a b = true → a = b
 | [], [], _ => rfl
 | [], _ :: _, h => by simp [beqL] at h
 | _ :: _, [], h => by simp [beqL] at h
 | a :: l, b :: m, h => by
  simp only [beqL, Bool.and_eq_true] at h
  rw [beqT_eq a b h.1, beqL_eq l m h.2]
theorem beqR_eq : ∀ (a b : List (List T)), beqR a b = true → a = b
 | [], [], _ => rfl
 | [], _ :: _, h => by simp [beqR] at h
 | _ :: _, [], h => by simp [beqR] at h
 | a :: l, b :: m, h => by
  simp only [beqR, Bool.and_eq_true] at h
  rw [beqL_eq a b h.1, beqR_eq l m h.2]
end
def beqTD : TD → TD → Bool
 | .one a, .one b => beqT a b
 | .agg a, .agg b => beqL a b
 | _, _ => false
theorem beqTD_eq {a b : TD} (h : beqTD a b = true) : a = b := by
 cases a <;> cases b <;> simp only [beqTD, Bool.false_eq_true] at h
 ·rw [beqT_eq _ _ h]
 ·rw [beqL_eq _ _ h]
def beqTDs : List TD → List TD → Bool
 | [], [] => true
 | a :: l, b :: m => beqTD a b && beqTDs l m
 | _, _ => false
theorem beqTDs_eq : ∀ {a b : List TD}, beqTDs a b = true → a = b
 | [], [], _ => rfl
 | [], _ :: _, h => by simp [beqTDs] at h
 | _ :: _, [], h => by simp [beqTDs] at h
 | a :: l, b :: m, h => by
  simp only [beqTDs, Bool.and_eq_true] at h
  rw [beqTD_eq h.1, beqTDs_eq h.2]
def memoF : List (List TD × Kind × List TD) → List TD → Option (Kind × List TD)
 | [], _ => none
 | e :: r, vs => cond (beqTDs e.1 vs) (some e.2) (memoF r vs)
theorem memo_ok {P : Program} {cp : CallP} {k : FuncId} (hc : ∀ vs kind rs, cp k vs = some (kind, rs) → PureOk P k vs kind rs ∧ Enters P k) :
  ∀ (l : List (List TD × Kind × List TD)), (∀ e ∈ l, cp k e.1 = some e.2) → ∀ vs kind rs, memoF l vs = some (kind, rs) → PureOk P k vs kind rs ∧ Enters P k
 | [], _, vs, kind, rs, h => by simp [memoF] at h
 | e :: r, hl, vs, kind, rs, h => by
  unfold memoF at h
  cases hb : beqTDs e.1 vs with
  | true =>
   rw [hb] at h
   simp only [cond_true, Option.some.injEq] at h
   rw [← beqTDs_eq hb]
   exact hc _ _ _ (by rw [hl e List.mem_cons_self, h])
  | false =>
   rw [hb] at h
   exact memo_ok hc r (fun x hx => hl x (List.mem_cons_of_mem _ hx)) vs kind rs h
end Ev
end Go.Proofs.YtjomjfjbpcafhaaDoor
