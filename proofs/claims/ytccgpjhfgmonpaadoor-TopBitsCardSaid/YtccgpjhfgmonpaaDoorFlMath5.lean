/- Sets of places: what two of them come to. -/
import Derived.Test.YtccgpjhfgmonpaaDoorFl21
namespace Go.Proofs.YtccgpjhfgmonpaaDoor
open Go.RowKit

theorem or_comm' (X Y : Nat → Bool) : orP X Y = orP Y X := by funext x; unfold orP; exact Bool.or_comm _ _
theorem and_comm' (X Y : Nat → Bool) : andP X Y = andP Y X := by funext x; unfold andP; exact Bool.and_comm _ _
theorem cut_at (X : Nat → Bool) {N i j : Nat} (hi : i < N) (hj : j < 64) : cutP X N (64 * i + j) = X (64 * i + j) := by
  unfold cutP
  have : 64 * i + j < 64 * N := by omega
  simp [this]
theorem sets3 (X Y : Nat → Bool) {N i : Nat} (hi : i < N) : wd (orP (cutP (andP (cutP X N) (cutP Y N)) N) (cutP (lessP (cutP X N) (cutP Y N)) N)) i = wd X i :=
  wd_congr fun j hj => by
    unfold orP
    rw [cut_at _ hi hj, cut_at _ hi hj]
    unfold andP lessP
    rw [cut_at _ hi hj, cut_at _ hi hj]
    cases X (64 * i + j) <;> cases Y (64 * i + j) <;> rfl
theorem sets4 (X Y : Nat → Bool) (N : Nat) : cnt (andP (cutP (andP (cutP X N) (cutP Y N)) N) (cutP (lessP (cutP X N) (cutP Y N)) N)) (64 * N) = 0 :=
  cnt_none fun x hx => by
    unfold andP lessP cutP
    simp only [hx, decide_true, Bool.true_and]
    cases X x <;> cases Y x <;> rfl
theorem sets5 (X : Nat → Bool) {k : Int} {N i : Nat} (hX : ∀ x, X x = true → (x : Int) < k ∧ x < 4096) (hi : i < N) :
    wd (lessP (cutP (belowP k) N) (cutP (lessP (cutP (belowP k) N) (cutP X N)) N)) i = wd X i :=
  wd_congr fun j hj => by
    unfold lessP
    rw [cut_at _ hi hj, cut_at _ hi hj]
    rw [cut_at _ hi hj, cut_at _ hi hj]
    cases hx : X (64 * i + j)
    · cases belowP k (64 * i + j) <;> rfl
    · obtain ⟨h1, h2⟩ := hX _ hx
      have : belowP k (64 * i + j) = true := by unfold belowP; simp only [h1, h2, decide_true, Bool.and_self]
      rw [this]; rfl
theorem cnt_less (X B : Nat → Bool) : ∀ {n : Nat}, (∀ x, x < n → X x = true → B x = true) → cnt X n + cnt (lessP B X) n = cnt B n
  | 0, _ => rfl
  | n + 1, h => by
    rw [cnt_succ, cnt_succ, cnt_succ, ← cnt_less X B (n := n) (fun x hx => h x (by omega))]
    have h1 := h n (by omega)
    unfold lessP
    cases hx : X n
    · cases B n <;> simp <;> omega
    · rw [h1 hx]; simp; omega
theorem cnt_all {p : Nat → Bool} : ∀ {n : Nat}, (∀ x, x < n → p x = true) → cnt p n = n
  | 0, _ => rfl
  | n + 1, h => by rw [cnt_succ, cnt_all (n := n) fun x hx => h x (by omega), h n (by omega)]; rfl
theorem sets6 (X : Nat → Bool) {k : Int} {N : Nat} (hX : ∀ x, X x = true → (x : Int) < k ∧ x < 4096) (h0 : 0 ≤ k) (h1 : k ≤ 4096) (hN : N = nw k) :
    ((cnt X (64 * N) : Nat) : Int) + ((cnt (lessP (cutP (belowP k) N) (cutP X N)) (64 * N) : Nat) : Int) = k := by
  have e1 : cnt (lessP (cutP (belowP k) N) (cutP X N)) (64 * N) = cnt (lessP (belowP k) X) (64 * N) :=
    cnt_congr fun x hx => by unfold lessP cutP; simp only [hx, decide_true, Bool.true_and]
  have e2 : cnt (belowP k) (64 * N) = k.toNat := by
    have hle : k.toNat ≤ 64 * N := by rw [hN]; unfold nw; omega
    rw [cnt_gap hle (fun x h3 _ => by unfold belowP; have : ¬ (x : Int) < k := by omega
                                      simp only [this, decide_false, Bool.false_and])]
    exact cnt_all fun x hx => by
      have a1 : (x : Int) < k := by omega
      have a2 : x < 4096 := by omega
      unfold belowP; simp only [a1, a2, decide_true, Bool.and_self]
  have e3 := cnt_less X (belowP k) (n := 64 * N) (fun x _ hx => by
    obtain ⟨a1, a2⟩ := hX x hx
    unfold belowP; simp only [a1, a2, decide_true, Bool.and_self])
  rw [e1]
  omega
theorem ofP_in_set {k : Int} {Lf : Nat → Int} {M : Nat} : ∀ x, ofP k Lf M x = true → (x : Int) < k ∧ x < 4096 := fun x hx => by
  obtain ⟨j, _, h2, h3⟩ := ofP_iff.1 hx
  rw [h2] at h3
  unfold inO at h3
  omega
end Go.Proofs.YtccgpjhfgmonpaaDoor
