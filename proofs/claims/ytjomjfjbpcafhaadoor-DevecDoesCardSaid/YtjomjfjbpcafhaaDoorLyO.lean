import Derived.Test.YtjomjfjbpcafhaaDoorLy1
namespace Go.Proofs.YtjomjfjbpcafhaaDoor
namespace Ev
open Go
set_option linter.unusedVariables false
set_option linter.unusedSimpArgs false
set_option maxRecDepth 100000
set_option maxHeartbeats 1000000
attribute [local irreducible] OpsL StL TnL WpL EndL
theorem op3 {ts : List T} (h : Typ Tryd.prog 3 ts) : ∃ x : Int, ts = [iT .i64 x] ∧ inK .i64 x := typ_int (by kernel_rfl) h
def W3 (x : Int) : Prop := inK .i64 x
theorem op5 {ts : List T} (h : Typ Tryd.prog 5 ts) : ∃ x : Int, ts = [iT .u8 x] ∧ inK .u8 x := typ_int (by kernel_rfl) h
def W5 (x : Int) : Prop := inK .u8 x
theorem op85 {ts : List T} (h : Typ Tryd.prog 85 ts) : ∃ x : Int, ts = [iT .u64 x] ∧ inK .u64 x := typ_int (by kernel_rfl) h
def W85 (x : Int) : Prop := inK .u64 x
def W22 (x : Sl (Int)) : Prop := SlW 1 W85 x
theorem op22 {ts : List T} (h : Typ Tryd.prog 22 ts) : ∃ x : Sl (Int), ts = [Sl.t r85 x] ∧ W22 x := typ_slice (r := r85) (Q := W85) (w := 1) (by kernel_rfl) (by kernel_rfl) (fun ts h => op85 h) h
theorem op2 {ts : List T} (h : Typ Tryd.prog 2 ts) : ∃ x : Int, ts = [iT .i64 x] ∧ inK .i64 x := typ_int (by kernel_rfl) h
def W2 (x : Int) : Prop := inK .i64 x
def W23 (x : Sl (Int)) : Prop := SlW 1 W2 x
theorem op23 {ts : List T} (h : Typ Tryd.prog 23 ts) : ∃ x : Sl (Int), ts = [Sl.t r2 x] ∧ W23 x := typ_slice (r := r2) (Q := W2) (w := 1) (by kernel_rfl) (by kernel_rfl) (fun ts h => op2 h) h
def W25 (x : Int × Sl (Int) × Sl (Int)) : Prop := W3 x.1 ∧ W22 x.2.1 ∧ W23 x.2.2
theorem op25 {ts : List T} (h : Typ Tryd.prog 25 ts) : ∃ x : Int × Sl (Int) × Sl (Int), ts = r24 x ∧ W25 x := by
  obtain ⟨tss, rfl, hl, hf⟩ := typ_struct (fs := flds Tryd.prog 24) (by kernel_rfl) h
  rw [show (flds Tryd.prog 24).toList = [fld Tryd.prog 24 0, fld Tryd.prog 24 1, fld Tryd.prog 24 2] by kernel_rfl] at hl hf
  match tss, hl with
  | [t0, t1, t2], _ =>
    have g0 : Typ Tryd.prog 3 t0 := by have := hf 0 _ _ rfl rfl; rwa [show (fld Tryd.prog 24 0).type = 3 by kernel_rfl] at this
    obtain ⟨x0, rfl, w0⟩ := op3 g0
    have g1 : Typ Tryd.prog 22 t1 := by have := hf 1 _ _ rfl rfl; rwa [show (fld Tryd.prog 24 1).type = 22 by kernel_rfl] at this
    obtain ⟨x1, rfl, w1⟩ := op22 g1
    have g2 : Typ Tryd.prog 23 t2 := by have := hf 2 _ _ rfl rfl; rwa [show (fld Tryd.prog 24 2).type = 23 by kernel_rfl] at this
    obtain ⟨x2, rfl, w2⟩ := op23 g2
    exact ⟨(x0, x1, x2), rfl, ⟨w0, w1, w2⟩⟩
def W39 (x : Int × Int) : Prop := W3 x.1 ∧ W2 x.2
theorem op39 {ts : List T} (h : Typ Tryd.prog 39 ts) : ∃ x : Int × Int, ts = r38 x ∧ W39 x := by
  obtain ⟨tss, rfl, hl, hf⟩ := typ_struct (fs := flds Tryd.prog 38) (by kernel_rfl) h
  rw [show (flds Tryd.prog 38).toList = [fld Tryd.prog 38 0, fld Tryd.prog 38 1] by kernel_rfl] at hl hf
  match tss, hl with
  | [t0, t1], _ =>
    have g0 : Typ Tryd.prog 3 t0 := by have := hf 0 _ _ rfl rfl; rwa [show (fld Tryd.prog 38 0).type = 3 by kernel_rfl] at this
    obtain ⟨x0, rfl, w0⟩ := op3 g0
    have g1 : Typ Tryd.prog 2 t1 := by have := hf 1 _ _ rfl rfl; rwa [show (fld Tryd.prog 38 1).type = 2 by kernel_rfl] at this
    obtain ⟨x1, rfl, w1⟩ := op2 g1
    exact ⟨(x0, x1), rfl, ⟨w0, w1⟩⟩
def W26 (x : Sl (Int × Int)) : Prop := SlW 2 W39 x
theorem op26 {ts : List T} (h : Typ Tryd.prog 26 ts) : ∃ x : Sl (Int × Int), ts = [Sl.t r38 x] ∧ W26 x := typ_slice (r := r38) (Q := W39) (w := 2) (by kernel_rfl) (by kernel_rfl) (fun ts h => op39 h) h
def W28 (x : Int × (Sl (Int × Int))) : Prop := W3 x.1 ∧ W26 x.2
theorem op28 {ts : List T} (h : Typ Tryd.prog 28 ts) : ∃ x : Int × (Sl (Int × Int)), ts = r27 x ∧ W28 x := by
  obtain ⟨tss, rfl, hl, hf⟩ := typ_struct (fs := flds Tryd.prog 27) (by kernel_rfl) h
  rw [show (flds Tryd.prog 27).toList = [fld Tryd.prog 27 0, fld Tryd.prog 27 1] by kernel_rfl] at hl hf
  match tss, hl with
  | [t0, t1], _ =>
    have g0 : Typ Tryd.prog 3 t0 := by have := hf 0 _ _ rfl rfl; rwa [show (fld Tryd.prog 27 0).type = 3 by kernel_rfl] at this
    obtain ⟨x0, rfl, w0⟩ := op3 g0
    have g1 : Typ Tryd.prog 26 t1 := by have := hf 1 _ _ rfl rfl; rwa [show (fld Tryd.prog 27 1).type = 26 by kernel_rfl] at this
    obtain ⟨x1, rfl, w1⟩ := op26 g1
    exact ⟨(x0, x1), rfl, ⟨w0, w1⟩⟩
def W40 (x : (Int × Int) × (Int × Int)) : Prop := W39 x.1 ∧ W39 x.2
theorem op40 {ts : List T} (h : Typ Tryd.prog 40 ts) : ∃ x : (Int × Int) × (Int × Int), ts = r40 x ∧ W40 x := by
  obtain ⟨tss, rfl, hl, hf⟩ := typ_array (n := 2) (e := 39) (by kernel_rfl) h
  match tss, hl with
  | [t0, t1], _ =>
    obtain ⟨x0, rfl, w0⟩ := op39 (hf t0 (by simp))
    obtain ⟨x1, rfl, w1⟩ := op39 (hf t1 (by simp))
    exact ⟨(x0, x1), rfl, ⟨w0, w1⟩⟩
end Ev
end Go.Proofs.YtjomjfjbpcafhaaDoor
