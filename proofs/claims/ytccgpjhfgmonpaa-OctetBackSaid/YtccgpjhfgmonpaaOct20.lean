/- Package octet: whatever is read by both. -/
import Derived.Test.YtccgpjhfgmonpaaOct15
namespace Go.Proofs.Ytccgpjhfgmonpaa
open Go.RowKit Go.Sort
set_option linter.unusedVariables false
/-- What becomes of a reader: it stands inside its bytes; once something is wrong, it stays. -/
def After (m p : Nat) (e fa : Int) (p' : Nat) (e' fa' : Int) : Prop := p' ≤ m ∧ (¬ e = 0 → p' = p ∧ e' = e ∧ fa' = fa)
theorem after_n {m p : Nat} {e fa n : Int} (hp : p ≤ m) : After m p e fa (nP e m p n) (nE e m p n) (nF fa e m p n) :=
  ⟨nP_le hp, fun h => by obtain ⟨_, h2, h3, h4⟩ := st_bad fa m p n h; exact ⟨h4, h2, h3⟩⟩
theorem both_any (k : Int) (R S : Nat) (a1 a2 : Option Addr) (m c1 c2 p : Nat) (e fa n : Int) (f : Nat → Int) (w : World)
    (hR : CellsAt w R 55 (rdr (.slice a1 m c1) p e fa)) (hS : CellsAt w S 57 (rdr (.slice a2 m c2) p e fa)) (hb1 : Rd8 w a1 m f) (hb2 : Rd8 w a2 m f)
    (n1 : ∀ b, a1 = some b → b.block ≠ R ∧ b.block ≠ S) (n2 : ∀ b, a2 = some b → b.block ≠ R ∧ b.block ≠ S) (hRS : R ≠ S) (hz : a2 = none → c2 = 0 ∧ m = 0) (hc1 : m ≤ c1) (hc2 : m ≤ c2) (hm : m ≤ 100000) (hp : p ≤ m) :
    Calls Try.prog 10 #[.agg #[.pointer (some ⟨R, 0, none⟩), .pointer (some ⟨S, 0, none⟩)], .agg #[.int .i64 k, .int .i64 n]] w fun x w' => ∃ (p' : Nat) (e' fa' : Int), x = .returned (.bool true) ∧ After m p e fa p' e' fa' ∧ CellsAt w' R 55 (rdr (.slice a1 m c1) p' e' fa') ∧ CellsAt w' S 57 (rdr (.slice a2 m c2) p' e' fa') ∧ Keep2 R S w w' := by
  by_cases k0 : k = 0
  · subst k0
    exact (bothU8_any R S a1 a2 m c1 c2 p e fa n f w hR hS hb1 hb2 n1 n2 hRS hz hc1 hc2 hm hp).mono fun x w' ⟨h0, h1, h2, h3⟩ => ⟨_, _, _, h0, after_n hp, h1, h2, h3⟩
  by_cases k1 : k = 1
  · subst k1
    exact (bothU32_any R S a1 a2 m c1 c2 p e fa n f w hR hS hb1 hb2 n1 n2 hRS hz hc1 hc2 hm hp).mono fun x w' ⟨h0, h1, h2, h3⟩ => ⟨_, _, _, h0, after_n hp, h1, h2, h3⟩
  by_cases k2 : k = 2
  · subst k2
    exact (bothI64_any R S a1 a2 m c1 c2 p e fa n f w hR hS hb1 hb2 n1 n2 hRS hz hc1 hc2 hm hp).mono fun x w' ⟨h0, h1, h2, h3⟩ => ⟨_, _, _, h0, after_n hp, h1, h2, h3⟩
  by_cases k3 : k = 3
  · subst k3
    exact (bothTake_any R S a1 a2 m c1 c2 p e fa n f w hR hS hb1 hb2 n1 n2 hRS hz hc1 hc2 hm hp).mono fun x w' ⟨h0, h1, h2, h3⟩ => ⟨_, _, _, h0, after_n hp, h1, h2, h3⟩
  by_cases k4 : k = 4
  · subst k4
    exact (bothFail_any R S a1 a2 m c1 c2 p e fa n f w hR hS hb1 hb2 n1 n2 hRS hz hc1 hc2 hm hp).mono fun x w' ⟨h0, h1, h2, h3⟩ => ⟨_, _, _, h0, ⟨hp, fun h => ⟨rfl, by unfold fE; rw [if_neg h], by unfold fF; rw [if_neg (fun h' => h h'.1)]⟩⟩, h1, h2, h3⟩
  exact (bothEnd_any k k0 k1 k2 k3 k4 R S a1 a2 m c1 c2 p e fa n f w hR hS hb1 hb2 n1 n2 hRS hz hc1 hc2 hm hp).mono fun x w' ⟨h0, h1, h2, h3⟩ => ⟨_, _, _, h0, ⟨hp, fun _ => ⟨rfl, rfl, rfl⟩⟩, h1, h2, h3⟩

/-- Two cells a thing: things that may be read. -/
def RdR (w : World) (a : Option Addr) (n : Nat) (f g : Nat → Int) : Prop := ∀ i, i < n → ∃ b, a = some b ∧ b.block < w.heap.size ∧ w.cell? (b.add (i * 2)) = some (.int .i64 (f i)) ∧ w.cell? ⟨b.block, (b.add (i * 2)).off + 1, none⟩ = some (.int .i64 (g i))
theorem RdR.kept {W W' : World} {a : Option Addr} {n : Nat} {f g : Nat → Int} (h : RdR W a n f g) (hb : ∀ b, a = some b → W'.heap[b.block]? = W.heap[b.block]?) (hs : W.heap.size ≤ W'.heap.size) : RdR W' a n f g := by
  intro i hi
  obtain ⟨b, rfl, h1, h2, h3⟩ := h i hi
  have := hb b rfl
  refine ⟨b, rfl, Nat.lt_of_lt_of_le h1 hs, ?_, ?_⟩
  · rw [← h2]; unfold World.cell?; rw [blk_add, this]
  · rw [← h3]; unfold World.cell?; rw [this]
theorem RdR.below {W W' : World} {a : Option Addr} {n : Nat} {f g : Nat → Int} (h : RdR W a n f g) (hb : Below W.heap.size W W') : RdR W' a n f g := by
  intro i hi
  obtain ⟨b, rfl, h1, h2, h3⟩ := h i hi
  have := hb.block b.block h1
  refine ⟨b, rfl, Nat.lt_of_lt_of_le h1 hb.size, ?_, ?_⟩
  · rw [← h2]; unfold World.cell?; rw [blk_add, this]
  · rw [← h3]; unfold World.cell?; rw [this]
end Go.Proofs.Ytccgpjhfgmonpaa
