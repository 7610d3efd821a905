/- Package octet: the reader's methods. -/
import Derived.Test.YtccgpjhfgmonpaaDoorOct6
namespace Go.Proofs.YtccgpjhfgmonpaaDoor
open Go.RowKit Go.Sort
set_option linter.unusedVariables false

/-- Are there so many bytes? -/
def good (e : Int) (m p : Nat) (n : Int) : Bool := decide (e = 0 ∧ 0 ≤ n ∧ n ≤ (m : Int) - p)
def nE (e : Int) (m p : Nat) (n : Int) : Int := if e = 0 then (if n < 0 then 3 else if (m : Int) - p < n then 2 else 0) else e
def nF (fa e : Int) (m p : Nat) (n : Int) : Int := if e = 0 then (if n < 0 then p else if (m : Int) - p < n then m else fa) else fa
def nP (e : Int) (m p : Nat) (n : Int) : Nat := if good e m p n = true then p + n.toNat else p
theorem good_t {e : Int} {m p : Nat} {n : Int} (h : e = 0) (h0 : 0 ≤ n) (h1 : n ≤ (m : Int) - p) : good e m p n = true := decide_eq_true ⟨h, h0, h1⟩
theorem good_f {e : Int} {m p : Nat} {n : Int} (h : ¬ (e = 0 ∧ 0 ≤ n ∧ n ≤ (m : Int) - p)) : good e m p n = false := decide_eq_false h
theorem st_bad {e : Int} (fa : Int) (m p : Nat) (n : Int) (h : ¬ e = 0) : good e m p n = false ∧ nE e m p n = e ∧ nF fa e m p n = fa ∧ nP e m p n = p := by
  have g := good_f (e := e) (m := m) (p := p) (n := n) (fun hh => h hh.1)
  exact ⟨g, by unfold nE; rw [if_neg h], by unfold nF; rw [if_neg h], by unfold nP; rw [g]; simp⟩
theorem st_neg (fa : Int) (m p : Nat) (n : Int) (h : n < 0) : good 0 m p n = false ∧ nE 0 m p n = 3 ∧ nF fa 0 m p n = p ∧ nP 0 m p n = p := by
  have g := good_f (e := 0) (m := m) (p := p) (n := n) (fun hh => by omega)
  exact ⟨g, by unfold nE; rw [if_pos rfl, if_pos h], by unfold nF; rw [if_pos rfl, if_pos h], by unfold nP; rw [g]; simp⟩
theorem st_short (fa : Int) (m p : Nat) (n : Int) (h0 : 0 ≤ n) (h : (m : Int) - p < n) : good 0 m p n = false ∧ nE 0 m p n = 2 ∧ nF fa 0 m p n = m ∧ nP 0 m p n = p := by
  have g := good_f (e := 0) (m := m) (p := p) (n := n) (fun hh => by omega)
  exact ⟨g, by unfold nE; rw [if_pos rfl, if_neg (by omega), if_pos h], by unfold nF; rw [if_pos rfl, if_neg (by omega), if_pos h], by unfold nP; rw [g]; simp⟩
theorem st_ok (fa : Int) (m p : Nat) (n : Int) (h0 : 0 ≤ n) (h : n ≤ (m : Int) - p) : good 0 m p n = true ∧ nE 0 m p n = 0 ∧ nF fa 0 m p n = fa ∧ nP 0 m p n = p + n.toNat := by
  have g := good_t (e := 0) (m := m) (p := p) (n := n) rfl h0 h
  exact ⟨g, by unfold nE; rw [if_pos rfl, if_neg (by omega), if_neg (by omega)], by unfold nF; rw [if_pos rfl, if_neg (by omega), if_neg (by omega)], by unfold nP; rw [g]; simp⟩

theorem read64_any (R : Nat) (a : Option Addr) (m c p : Nat) (e fa : Int) (f : Nat → Int) (w : World) (hR : CellsAt w R 70 (rdr (.slice a m c) p e fa)) (hb : Rd8 w a m f) (hne : ∀ b, a = some b → b.block ≠ R) (hc : m ≤ c) (hm : m ≤ 100000) (hp : p ≤ m) :
    Calls Tryd.prog 63 #[.pointer (some ⟨R, 0, none⟩), .int .i64 8, .func (.func 64) #[] #[]] w fun x w' => x = .returned (.int .i64 (if good e m p 8 = true then lw (fun i => f (p + i)) 8 else 0)) ∧ CellsAt w' R 70 (rdr (.slice a m c) (nP e m p 8) (nE e m p 8) (nF fa e m p 8)) ∧ w.grownBy w' (some R) := by
  by_cases he : e = 0
  · subst he
    by_cases hs : (m : Int) - p < 8
    · obtain ⟨s1, s2, s3, s4⟩ := st_short fa m p 8 (by decide) hs
      rw [s1, s2, s3, s4]
      exact read64_short R a m c p fa 8 w hR (by decide) hp (by omega) hs
    · obtain ⟨s1, s2, s3, s4⟩ := st_ok fa m p 8 (by decide) (by omega)
      rw [s1, s2, s3, s4]
      exact read64_ok R a m c p fa f w hR hb hne hc (by omega) (by omega)
  · obtain ⟨s1, s2, s3, s4⟩ := st_bad fa m p 8 he
    rw [s1, s2, s3, s4]
    exact (read64_bad R _ _ e fa 8 w hR he).mono fun x w' ⟨h1, h2⟩ => ⟨h1, hR.below h2, grownBy_of_below h2 _⟩

theorem oI64_any (R : Nat) (a : Option Addr) (m c p : Nat) (e fa : Int) (f : Nat → Int) (w : World) (hR : CellsAt w R 70 (rdr (.slice a m c) p e fa)) (hb : Rd8 w a m f) (hne : ∀ b, a = some b → b.block ≠ R) (hc : m ≤ c) (hm : m ≤ 100000) (hp : p ≤ m) :
    Calls Tryd.prog 45 #[.pointer (some ⟨R, 0, none⟩)] w fun x w' => x = .returned (.int .i64 (if good e m p 8 = true then lw (fun i => f (p + i)) 8 else 0)) ∧ CellsAt w' R 70 (rdr (.slice a m c) (nP e m p 8) (nE e m p 8) (nF fa e m p 8)) ∧ w.grownBy w' (some R) := by
  have H := Lib.hid (read64_any R a m c p e fa f w hR hb hne hc hm hp)
  clear hR hb hne
  obtain ⟨V, hV⟩ : ∃ V, V = (if good e m p 8 = true then lw (fun i => f (p + i)) 8 else 0) := ⟨_, rfl⟩
  rw [← hV] at H ⊢
  clear hV
  go_enter Tryd.func45, Tryd.ntmps45
  go_wp2_with fail
  refine H.out.mono ?_
  rintro x w' ⟨rfl, h1, h2⟩
  go_wp2
  go_ret
  exact ⟨rfl, h1, h2⟩

theorem oI64_nil (w : World) : Calls Tryd.prog 45 #[.pointer none] w fun x w' => x = .returned (.int .i64 0) ∧ Below w.heap.size w w' := by
  go_enter Tryd.func45, Tryd.ntmps45
  go_wp2_with fail
  refine (read64_nil 8 _).mono ?_
  rintro x w' ⟨rfl, h1⟩
  go_wp2
  go_ret
  exact ⟨rfl, h1⟩

theorem rd8_none (w : World) (a : Option Addr) (f : Nat → Int) : Rd8 w a 0 f := fun i hi => absurd hi (Nat.not_lt_zero _)
end Go.Proofs.YtccgpjhfgmonpaaDoor
