import Derived.Test.YtjomjfjbpcafhaaDoorLy1
namespace Go.Proofs.YtjomjfjbpcafhaaDoor
namespace Ev
open Go
set_option linter.unusedVariables false
set_option linter.unusedSimpArgs false
set_option maxRecDepth 100000
set_option maxHeartbeats 1000000
attribute [local irreducible] OpsL StL TnL WpL EndL
theorem op3 {ts : List T} (h : Typ Tryd.prog 3 ts) : ∃ x : Int, ts = [iT .i64 x] ∧ inK .i64 x := typ_int (by kernel_rfl) h
def W3 (x : Int) : Prop := inK .i64 x
theorem op5 {ts : List T} (h : Typ Tryd.prog 5 ts) : ∃ x : Int, ts = [iT .u8 x] ∧ inK .u8 x := typ_int (by kernel_rfl) h
theorem op2 {ts : List T} (h : Typ Tryd.prog 2 ts) : ∃ x : Int, ts = [iT .i64 x] ∧ inK .i64 x := typ_int (by kernel_rfl) h
def W2 (x : Int) : Prop := inK .i64 x
def W39 (x : Int × Int) : Prop := W3 x.1 ∧ W2 x.2
theorem op39 {ts : List T} (h : Typ Tryd.prog 39 ts) : ∃ x : Int × Int, ts = r38 x ∧ W39 x := by
 obtain ⟨tss, rfl, hl, hf⟩ := typ_struct (fs := flds Tryd.prog 38) (by kernel_rfl) h
 rw [show (flds Tryd.prog 38).toList = [fld Tryd.prog 38 0, fld Tryd.prog 38 1] by kernel_rfl] at hl hf
 match tss, hl with
 | [t0, t1], _ =>
  have g0 : Typ Tryd.prog 3 t0 := by have := hf 0 _ _ rfl rfl; rwa [show (fld Tryd.prog 38 0).type = 3 by kernel_rfl] at this
  obtain ⟨x0, rfl, w0⟩ := op3 g0
  have g1 : Typ Tryd.prog 2 t1 := by have := hf 1 _ _ rfl rfl; rwa [show (fld Tryd.prog 38 1).type = 2 by kernel_rfl] at this
  obtain ⟨x1, rfl, w1⟩ := op2 g1
  exact ⟨(x0, x1), rfl, ⟨w0, w1⟩⟩
def W26 (x : Sl (Int × Int)) : Prop := SlW 2 W39 x
theorem op26 {ts : List T} (h : Typ Tryd.prog 26 ts) : ∃ x : Sl (Int × Int), ts = [Sl.t r38 x] ∧ W26 x := typ_slice (r := r38) (Q := W39) (w := 2) (by kernel_rfl) (by kernel_rfl) (fun ts h => op39 h) h
end Ev
end Go.Proofs.YtjomjfjbpcafhaaDoor
