import Derived.Test.YtioagbejilllfaaLy1
namespace Go.Proofs.Ytioagbejilllfaa
namespace Ev
open Go
set_option linter.unusedVariables false
set_option linter.unusedSimpArgs false
set_option maxRecDepth 100000
set_option maxHeartbeats 1000000
attribute [local irreducible] OpsL StL TnL WpL EndL
theorem op2 {ts : List T} (h : Typ Try.prog 2 ts) : ∃ x : Int, ts = [iT .i64 x] ∧ inK .i64 x := typ_int (by kernel_rfl) h
def W2 (x : Int) : Prop := inK .i64 x
theorem op5 {ts : List T} (h : Typ Try.prog 5 ts) : ∃ x : Int, ts = [iT .u8 x] ∧ inK .u8 x := typ_int (by kernel_rfl) h
def W5 (x : Int) : Prop := inK .u8 x
theorem op22 {ts : List T} (h : Typ Try.prog 22 ts) : ∃ x : Int, ts = [iT .i64 x] ∧ inK .i64 x := typ_int (by kernel_rfl) h
def W22 (x : Int) : Prop := inK .i64 x
theorem op3 {ts : List T} (h : Typ Try.prog 3 ts) : ∃ x : Int, ts = [iT .i64 x] ∧ inK .i64 x := typ_int (by kernel_rfl) h
def W3 (x : Int) : Prop := inK .i64 x
def W34 (x : Int × Int) : Prop := W3 x.1 ∧ W2 x.2
theorem op34 {ts : List T} (h : Typ Try.prog 34 ts) : ∃ x : Int × Int, ts = r33 x ∧ W34 x := by
  obtain ⟨tss, rfl, hl, hf⟩ := typ_struct (fs := flds Try.prog 33) (by kernel_rfl) h
  rw [show (flds Try.prog 33).toList = [fld Try.prog 33 0, fld Try.prog 33 1] by kernel_rfl] at hl hf
  match tss, hl with
  | [t0, t1], _ =>
    have g0 : Typ Try.prog 3 t0 := by have := hf 0 _ _ rfl rfl; rwa [show (fld Try.prog 33 0).type = 3 by kernel_rfl] at this
    obtain ⟨x0, rfl, w0⟩ := op3 g0
    have g1 : Typ Try.prog 2 t1 := by have := hf 1 _ _ rfl rfl; rwa [show (fld Try.prog 33 1).type = 2 by kernel_rfl] at this
    obtain ⟨x1, rfl, w1⟩ := op2 g1
    exact ⟨(x0, x1), rfl, ⟨w0, w1⟩⟩
def W23 (x : Sl (Int × Int)) : Prop := SlW 2 W34 x
theorem op23 {ts : List T} (h : Typ Try.prog 23 ts) : ∃ x : Sl (Int × Int), ts = [Sl.t r33 x] ∧ W23 x := typ_slice (r := r33) (Q := W34) (w := 2) (by kernel_rfl) (by kernel_rfl) (fun ts h => op34 h) h
def W25 (x : Int × (Sl (Int × Int))) : Prop := W3 x.1 ∧ W23 x.2
theorem op25 {ts : List T} (h : Typ Try.prog 25 ts) : ∃ x : Int × (Sl (Int × Int)), ts = r24 x ∧ W25 x := by
  obtain ⟨tss, rfl, hl, hf⟩ := typ_struct (fs := flds Try.prog 24) (by kernel_rfl) h
  rw [show (flds Try.prog 24).toList = [fld Try.prog 24 0, fld Try.prog 24 1] by kernel_rfl] at hl hf
  match tss, hl with
  | [t0, t1], _ =>
    have g0 : Typ Try.prog 3 t0 := by have := hf 0 _ _ rfl rfl; rwa [show (fld Try.prog 24 0).type = 3 by kernel_rfl] at this
    obtain ⟨x0, rfl, w0⟩ := op3 g0
    have g1 : Typ Try.prog 23 t1 := by have := hf 1 _ _ rfl rfl; rwa [show (fld Try.prog 24 1).type = 23 by kernel_rfl] at this
    obtain ⟨x1, rfl, w1⟩ := op23 g1
    exact ⟨(x0, x1), rfl, ⟨w0, w1⟩⟩
theorem op26 {ts : List T} (h : Typ Try.prog 26 ts) : ∃ x : Int, ts = [iT .i64 x] ∧ inK .i64 x := typ_int (by kernel_rfl) h
def W26 (x : Int) : Prop := inK .i64 x
def W28 (x : Int × Int) : Prop := W26 x.1 ∧ W2 x.2
theorem op28 {ts : List T} (h : Typ Try.prog 28 ts) : ∃ x : Int × Int, ts = r27 x ∧ W28 x := by
  obtain ⟨tss, rfl, hl, hf⟩ := typ_struct (fs := flds Try.prog 27) (by kernel_rfl) h
  rw [show (flds Try.prog 27).toList = [fld Try.prog 27 0, fld Try.prog 27 1] by kernel_rfl] at hl hf
  match tss, hl with
  | [t0, t1], _ =>
    have g0 : Typ Try.prog 26 t0 := by have := hf 0 _ _ rfl rfl; rwa [show (fld Try.prog 27 0).type = 26 by kernel_rfl] at this
    obtain ⟨x0, rfl, w0⟩ := op26 g0
    have g1 : Typ Try.prog 2 t1 := by have := hf 1 _ _ rfl rfl; rwa [show (fld Try.prog 27 1).type = 2 by kernel_rfl] at this
    obtain ⟨x1, rfl, w1⟩ := op2 g1
    exact ⟨(x0, x1), rfl, ⟨w0, w1⟩⟩
def W42 (x : Sl (Int)) : Prop := SlW 1 W3 x
theorem op42 {ts : List T} (h : Typ Try.prog 42 ts) : ∃ x : Sl (Int), ts = [Sl.t r3 x] ∧ W42 x := typ_slice (r := r3) (Q := W3) (w := 1) (by kernel_rfl) (by kernel_rfl) (fun ts h => op3 h) h
def W47 (x : (Sl (Int × Int)) × (Sl (Int × Int))) : Prop := W23 x.1 ∧ W23 x.2
theorem op47 {ts : List T} (h : Typ Try.prog 47 ts) : ∃ x : (Sl (Int × Int)) × (Sl (Int × Int)), ts = r47 x ∧ W47 x := by
  obtain ⟨tss, rfl, hl, hf⟩ := typ_array (n := 2) (e := 23) (by kernel_rfl) h
  match tss, hl with
  | [t0, t1], _ =>
    obtain ⟨x0, rfl, w0⟩ := op23 (hf t0 (by simp))
    obtain ⟨x1, rfl, w1⟩ := op23 (hf t1 (by simp))
    exact ⟨(x0, x1), rfl, ⟨w0, w1⟩⟩
theorem op54 {ts : List T} (h : Typ Try.prog 54 ts) : ∃ x : Int, ts = [iT .u64 x] ∧ inK .u64 x := typ_int (by kernel_rfl) h
def W54 (x : Int) : Prop := inK .u64 x
def W62 (x : Sl (Int)) : Prop := SlW 1 W54 x
theorem op62 {ts : List T} (h : Typ Try.prog 62 ts) : ∃ x : Sl (Int), ts = [Sl.t r54 x] ∧ W62 x := typ_slice (r := r54) (Q := W54) (w := 1) (by kernel_rfl) (by kernel_rfl) (fun ts h => op54 h) h
end Ev
end Go.Proofs.Ytioagbejilllfaa
