/- Package flags: what two sets come to, all others, and parts: the law. -/
import Derived.Deep.RegionHeld3
import Derived.Test.YtccgpjhfgmonpaaDoorFl23
namespace Go.Proofs.YtccgpjhfgmonpaaDoor
open Go.RowKit Go.Sort
set_option linter.unusedVariables false

/-- What came in may be read, the box of the two places stands. -/
structure SJ (w : World) (X : Nat) (z0 z1 : Int) (a : Option Addr) (n : Nat) (p : Nat → Bool) (b : Option Addr) (m : Nat) (q : Nat → Bool) (W : World) : Prop where
  st : St w a n p W
  rb : RdW W b m (wd q)
  x : CellsAt W X 37 #[.int .i64 z0, .int .i64 z1]
theorem SJ.on {w : World} {X : Nat} {z0 z1 : Int} {a : Option Addr} {n : Nat} {p : Nat → Bool} {b : Option Addr} {m : Nat} {q : Nat → Bool} {W W' : World} (h : SJ w X z0 z1 a n p b m q W) (hb : Below W.heap.size W W') : SJ w X z0 z1 a n p b m q W' :=
  ⟨h.st.on hb, h.rb.below hb, h.x.below hb⟩
theorem SJ.cells {w : World} {X : Nat} {z0 z1 : Int} {a : Option Addr} {n : Nat} {p : Nat → Bool} {b : Option Addr} {m : Nat} {q : Nat → Bool} {W : World} (h : SJ w X z0 z1 a n p b m q W) :
    W.cell? ⟨X, 0, none⟩ = some (.int .i64 z0) ∧ W.cell? ⟨X, 1, none⟩ = some (.int .i64 z1) := ⟨h.x.cell 0, h.x.cell 1⟩

theorem joinUnion {w : World} {X : Nat} {z0 z1 : Int} {a : Option Addr} {n : Nat} {p : Nat → Bool} {b : Option Addr} {m : Nat} {q : Nat → Bool} (c d : Nat) (hn : n ≤ 100000) (hm : m ≤ 100000) : ∃ (N : Nat) (G : Nat → Nat), N ≤ 100000 ∧
    (∀ W, SJ w X z0 z1 a n p b m q W → Calls Tryd.prog 33 #[.slice a n c, .slice b m d] W fun e W' => ∃ g, e = .returned (.slice (some ⟨g, 0, none⟩) N N) ∧ SJ w X z0 z1 a n p b m q W' ∧ RdW W' (some ⟨g, 0, none⟩) N G) ∧
    (∀ W a1, SJ w X z0 z1 a n p b m q W → RdW W a1 N G → Calls Tryd.prog 34 #[.slice a n c, .slice b m d] W fun e W' => ∃ a2 c2, e = .returned (.slice a2 N c2) ∧ SJ w X z0 z1 a n p b m q W' ∧ RdW W' a1 N G ∧ RdW W' a2 N G) :=
  ⟨(max n m), wd (orP (cutP p n) (cutP q m)), (by omega), fun W h => (union_any p q a b n c m d W h.st.rd h.rb hn hm).mono fun e W' ⟨g, he, _, hC, hb⟩ => ⟨g, he, h.on hb, rdW_of_cells hC (fun i _ => wd_lt _ i)⟩,
    fun W a1 h hA => (runion_any p q a b n c m d W h.st.rd h.rb hn hm).mono fun e W' ⟨g2, he, _, hC, hb⟩ => ⟨some ⟨g2, 0, none⟩, (max n m), he, h.on hb, hA.below hb, rdW_of_cells hC (fun i _ => wd_lt _ i)⟩⟩

theorem joinBoth {w : World} {X : Nat} {z0 z1 : Int} {a : Option Addr} {n : Nat} {p : Nat → Bool} {b : Option Addr} {m : Nat} {q : Nat → Bool} (c d : Nat) (hn : n ≤ 100000) (hm : m ≤ 100000) : ∃ (N : Nat) (G : Nat → Nat), N ≤ 100000 ∧
    (∀ W, SJ w X z0 z1 a n p b m q W → Calls Tryd.prog 35 #[.slice a n c, .slice b m d] W fun e W' => ∃ g, e = .returned (.slice (some ⟨g, 0, none⟩) N N) ∧ SJ w X z0 z1 a n p b m q W' ∧ RdW W' (some ⟨g, 0, none⟩) N G) ∧
    (∀ W a1, SJ w X z0 z1 a n p b m q W → RdW W a1 N G → Calls Tryd.prog 36 #[.slice a n c, .slice b m d] W fun e W' => ∃ a2 c2, e = .returned (.slice a2 N c2) ∧ SJ w X z0 z1 a n p b m q W' ∧ RdW W' a1 N G ∧ RdW W' a2 N G) :=
  ⟨n, wd (andP (cutP p n) (cutP q m)), hn, fun W h => (both_any p q a b n c m d W h.st.rd h.rb hn hm).mono fun e W' ⟨g, he, _, hC, hb⟩ => ⟨g, he, h.on hb, rdW_of_cells hC (fun i _ => wd_lt _ i)⟩,
    fun W a1 h hA => (rboth_loop n hn p q a b c m d W h.st.rd h.rb hm).mono fun e W' ⟨g2, he, _, hC, hb⟩ => ⟨some ⟨g2, 0, none⟩, n, he, h.on hb, hA.below hb, rdW_of_cells hC (fun i _ => wd_lt _ i)⟩⟩

theorem joinMinus {w : World} {X : Nat} {z0 z1 : Int} {a : Option Addr} {n : Nat} {p : Nat → Bool} {b : Option Addr} {m : Nat} {q : Nat → Bool} (c d : Nat) (hn : n ≤ 100000) (hm : m ≤ 100000) : ∃ (N : Nat) (G : Nat → Nat), N ≤ 100000 ∧
    (∀ W, SJ w X z0 z1 a n p b m q W → Calls Tryd.prog 37 #[.slice a n c, .slice b m d] W fun e W' => ∃ g, e = .returned (.slice (some ⟨g, 0, none⟩) N N) ∧ SJ w X z0 z1 a n p b m q W' ∧ RdW W' (some ⟨g, 0, none⟩) N G) ∧
    (∀ W a1, SJ w X z0 z1 a n p b m q W → RdW W a1 N G → Calls Tryd.prog 38 #[.slice a n c, .slice b m d] W fun e W' => ∃ a2 c2, e = .returned (.slice a2 N c2) ∧ SJ w X z0 z1 a n p b m q W' ∧ RdW W' a1 N G ∧ RdW W' a2 N G) :=
  ⟨n, wd (lessP (cutP p n) (cutP q m)), hn, fun W h => (minus_any p q a b n c m d W h.st.rd h.rb hn hm).mono fun e W' ⟨g, he, _, hC, hb⟩ => ⟨g, he, h.on hb, rdW_of_cells hC (fun i _ => wd_lt _ i)⟩,
    fun W a1 h hA => (rminus_loop n hn p q a b c m d W h.st.rd h.rb hm).mono fun e W' ⟨g2, he, _, hC, hb⟩ => ⟨some ⟨g2, 0, none⟩, n, he, h.on hb, hA.below hb, rdW_of_cells hC (fun i _ => wd_lt _ i)⟩⟩

theorem joinFlip {w : World} {X : Nat} {z0 z1 : Int} {a : Option Addr} {n : Nat} {p : Nat → Bool} {b : Option Addr} {m : Nat} {q : Nat → Bool} (c d : Nat) (hn : n ≤ 100000) (hm : m ≤ 100000) : ∃ (N : Nat) (G : Nat → Nat), N ≤ 100000 ∧
    (∀ W, SJ w X z0 z1 a n p b m q W → Calls Tryd.prog 39 #[.slice a n c, .int .i64 z0] W fun e W' => ∃ g, e = .returned (.slice (some ⟨g, 0, none⟩) N N) ∧ SJ w X z0 z1 a n p b m q W' ∧ RdW W' (some ⟨g, 0, none⟩) N G) ∧
    (∀ W a1, SJ w X z0 z1 a n p b m q W → RdW W a1 N G → Calls Tryd.prog 40 #[.slice a n c, .int .i64 z0] W fun e W' => ∃ a2 c2, e = .returned (.slice a2 N c2) ∧ SJ w X z0 z1 a n p b m q W' ∧ RdW W' a1 N G ∧ RdW W' a2 N G) :=
  ⟨(nw z0), wd (lessP (cutP (belowP z0) (nw z0)) (cutP p n)), (by have := nw_le z0; omega), fun W h => (flip_any z0 a n c p W h.st.rd hn).mono fun e W' ⟨g, he, _, hC, hb⟩ => ⟨g, he, h.on hb, rdW_of_cells hC (fun i _ => wd_lt _ i)⟩,
    fun W a1 h hA => (rflip_any z0 a n c p W h.st.rd hn).mono fun e W' ⟨a2, c2, he, hO, hb⟩ => ⟨a2, c2, he, h.on hb, hA.below hb, hO.rd⟩⟩

theorem joinPart {w : World} {X : Nat} {z0 z1 : Int} {a : Option Addr} {n : Nat} {p : Nat → Bool} {b : Option Addr} {m : Nat} {q : Nat → Bool} (c d : Nat) (hn : n ≤ 100000) (hm : m ≤ 100000) (hz0 : -9223372036854775808 ≤ z0 ∧ z0 ≤ 9223372036854775807) (hz1 : -9223372036854775808 ≤ z1 ∧ z1 ≤ 9223372036854775807) : ∃ (N : Nat) (G : Nat → Nat), N ≤ 100000 ∧
    (∀ W, SJ w X z0 z1 a n p b m q W → Calls Tryd.prog 41 #[.slice a n c, .int .i64 z0, .int .i64 z1] W fun e W' => ∃ g, e = .returned (.slice (some ⟨g, 0, none⟩) N N) ∧ SJ w X z0 z1 a n p b m q W' ∧ RdW W' (some ⟨g, 0, none⟩) N G) ∧
    (∀ W a1, SJ w X z0 z1 a n p b m q W → RdW W a1 N G → Calls Tryd.prog 42 #[.slice a n c, .int .i64 z0, .int .i64 z1] W fun e W' => ∃ a2 c2, e = .returned (.slice a2 N c2) ∧ SJ w X z0 z1 a n p b m q W' ∧ RdW W' a1 N G ∧ RdW W' a2 N G) :=
  ⟨(nw (z1 - z0.toNat)), wd (ppP z0.toNat z1 (pl p (64 * n))), (by have := nw_le (z1 - z0.toNat); omega), fun W h => (part_any a n c p z0 z1 W h.st.rd h.st.tab hn hz0 hz1).mono fun e W' ⟨g, he, _, hC, hb⟩ => ⟨g, he, h.on hb, rdW_of_cells hC (fun i _ => wd_lt _ i)⟩,
    fun W a1 h hA => (rpart_any a n c p z0 z1 W h.st.rd hn hz0 hz1).mono fun e W' ⟨a2, c2, he, hO, hb⟩ => ⟨a2, c2, he, h.on hb, hA.below hb, hO.rd⟩⟩

theorem joinSame {w : World} {X : Nat} {z0 z1 : Int} {a : Option Addr} {n : Nat} {p : Nat → Bool} {b : Option Addr} {m : Nat} {q : Nat → Bool} (N : Nat) (G : Nat → Nat) (hN : N ≤ 100000) : ∀ (W : World) (a1 a2 : Option Addr) (c1 c2 : Nat), SJ w X z0 z1 a n p b m q W → RdW W a1 N G → RdW W a2 N G →
    Calls Tryd.prog 12 #[.slice a1 N c1, .slice a2 N c2] W fun e W' => e = .returned (.bool true) ∧ SJ w X z0 z1 a n p b m q W' :=
  fun W a1 a2 c1 c2 h hA hB => (same_any a1 a2 N c1 c2 G G W hA hB (fun _ _ => rfl) hN).mono fun e W' ⟨he, hb⟩ => ⟨he, h.on hb⟩
theorem joinLive {w : World} {X : Nat} {z0 z1 : Int} {a : Option Addr} {n : Nat} {p : Nat → Bool} {b : Option Addr} {m : Nat} {q : Nat → Bool} : ∀ W, SJ w X z0 z1 a n p b m q W → Calls Tryd.prog 11 #[] W fun e W' => e = .returned (.bool true) ∧ SJ w X z0 z1 a n p b m q W' :=
  fun W h => (live_any W h.st.tab).mono fun e W' ⟨he, hb⟩ => ⟨he, h.on hb⟩
end Go.Proofs.YtccgpjhfgmonpaaDoor
