import Derived.Test.YtlcfdmjkbaegpaaLy1
namespace Go.Proofs.Ytlcfdmjkbaegpaa
namespace Ev
open Go
set_option linter.unusedVariables false
set_option linter.unusedSimpArgs false
set_option maxRecDepth 100000
set_option maxHeartbeats 1000000
attribute [local irreducible] OpsL StL TnL WpL EndL
theorem op2 {ts : List T} (h : Typ Try.prog 2 ts) : ∃ x : Int, ts = [iT .i64 x] ∧ inK .i64 x := typ_int (by kernel_rfl) h
def W2 (x : Int) : Prop := inK .i64 x
theorem op5 {ts : List T} (h : Typ Try.prog 5 ts) : ∃ x : Int, ts = [iT .u8 x] ∧ inK .u8 x := typ_int (by kernel_rfl) h
def W5 (x : Int) : Prop := inK .u8 x
theorem op22 {ts : List T} (h : Typ Try.prog 22 ts) : ∃ x : Int, ts = [iT .i64 x] ∧ inK .i64 x := typ_int (by kernel_rfl) h
def W22 (x : Int) : Prop := inK .i64 x
theorem op3 {ts : List T} (h : Typ Try.prog 3 ts) : ∃ x : Int, ts = [iT .i64 x] ∧ inK .i64 x := typ_int (by kernel_rfl) h
def W3 (x : Int) : Prop := inK .i64 x
def W57 (x : Int × Int) : Prop := W3 x.1 ∧ W2 x.2
theorem op57 {ts : List T} (h : Typ Try.prog 57 ts) : ∃ x : Int × Int, ts = r56 x ∧ W57 x := by
  obtain ⟨tss, rfl, hl, hf⟩ := typ_struct (fs := flds Try.prog 56) (by kernel_rfl) h
  rw [show (flds Try.prog 56).toList = [fld Try.prog 56 0, fld Try.prog 56 1] by kernel_rfl] at hl hf
  match tss, hl with
  | [t0, t1], _ =>
    have g0 : Typ Try.prog 3 t0 := by have := hf 0 _ _ rfl rfl; rwa [show (fld Try.prog 56 0).type = 3 by kernel_rfl] at this
    obtain ⟨x0, rfl, w0⟩ := op3 g0
    have g1 : Typ Try.prog 2 t1 := by have := hf 1 _ _ rfl rfl; rwa [show (fld Try.prog 56 1).type = 2 by kernel_rfl] at this
    obtain ⟨x1, rfl, w1⟩ := op2 g1
    exact ⟨(x0, x1), rfl, ⟨w0, w1⟩⟩
def W23 (x : Sl (Int × Int)) : Prop := SlW 2 W57 x
theorem op23 {ts : List T} (h : Typ Try.prog 23 ts) : ∃ x : Sl (Int × Int), ts = [Sl.t r56 x] ∧ W23 x := typ_slice (r := r56) (Q := W57) (w := 2) (by kernel_rfl) (by kernel_rfl) (fun ts h => op57 h) h
def W25 (x : Int × (Sl (Int × Int))) : Prop := W3 x.1 ∧ W23 x.2
theorem op25 {ts : List T} (h : Typ Try.prog 25 ts) : ∃ x : Int × (Sl (Int × Int)), ts = r24 x ∧ W25 x := by
  obtain ⟨tss, rfl, hl, hf⟩ := typ_struct (fs := flds Try.prog 24) (by kernel_rfl) h
  rw [show (flds Try.prog 24).toList = [fld Try.prog 24 0, fld Try.prog 24 1] by kernel_rfl] at hl hf
  match tss, hl with
  | [t0, t1], _ =>
    have g0 : Typ Try.prog 3 t0 := by have := hf 0 _ _ rfl rfl; rwa [show (fld Try.prog 24 0).type = 3 by kernel_rfl] at this
    obtain ⟨x0, rfl, w0⟩ := op3 g0
    have g1 : Typ Try.prog 23 t1 := by have := hf 1 _ _ rfl rfl; rwa [show (fld Try.prog 24 1).type = 23 by kernel_rfl] at this
    obtain ⟨x1, rfl, w1⟩ := op23 g1
    exact ⟨(x0, x1), rfl, ⟨w0, w1⟩⟩
theorem op61 {ts : List T} (h : Typ Try.prog 61 ts) : ∃ x : Int, ts = [iT .u64 x] ∧ inK .u64 x := typ_int (by kernel_rfl) h
def W61 (x : Int) : Prop := inK .u64 x
def W33 (x : Sl (Int)) : Prop := SlW 1 W61 x
theorem op33 {ts : List T} (h : Typ Try.prog 33 ts) : ∃ x : Sl (Int), ts = [Sl.t r61 x] ∧ W33 x := typ_slice (r := r61) (Q := W61) (w := 1) (by kernel_rfl) (by kernel_rfl) (fun ts h => op61 h) h
def W37 (x : (Sl (Int × Int)) × (Sl (Int × Int)) × (Sl (Int × Int))) : Prop := W23 x.1 ∧ W23 x.2.1 ∧ W23 x.2.2
theorem op37 {ts : List T} (h : Typ Try.prog 37 ts) : ∃ x : (Sl (Int × Int)) × (Sl (Int × Int)) × (Sl (Int × Int)), ts = r37 x ∧ W37 x := by
  obtain ⟨tss, rfl, hl, hf⟩ := typ_array (n := 3) (e := 23) (by kernel_rfl) h
  match tss, hl with
  | [t0, t1, t2], _ =>
    obtain ⟨x0, rfl, w0⟩ := op23 (hf t0 (by simp))
    obtain ⟨x1, rfl, w1⟩ := op23 (hf t1 (by simp))
    obtain ⟨x2, rfl, w2⟩ := op23 (hf t2 (by simp))
    exact ⟨(x0, x1, x2), rfl, ⟨w0, w1, w2⟩⟩
def W42 (x : Sl (Int) × Sl (Int)) : Prop := W33 x.1 ∧ W33 x.2
theorem op42 {ts : List T} (h : Typ Try.prog 42 ts) : ∃ x : Sl (Int) × Sl (Int), ts = r42 x ∧ W42 x := by
  obtain ⟨tss, rfl, hl, hf⟩ := typ_array (n := 2) (e := 33) (by kernel_rfl) h
  match tss, hl with
  | [t0, t1], _ =>
    obtain ⟨x0, rfl, w0⟩ := op33 (hf t0 (by simp))
    obtain ⟨x1, rfl, w1⟩ := op33 (hf t1 (by simp))
    exact ⟨(x0, x1), rfl, ⟨w0, w1⟩⟩
def W46 (x : (Sl (Int × Int)) × (Sl (Int × Int))) : Prop := W23 x.1 ∧ W23 x.2
theorem op46 {ts : List T} (h : Typ Try.prog 46 ts) : ∃ x : (Sl (Int × Int)) × (Sl (Int × Int)), ts = r46 x ∧ W46 x := by
  obtain ⟨tss, rfl, hl, hf⟩ := typ_array (n := 2) (e := 23) (by kernel_rfl) h
  match tss, hl with
  | [t0, t1], _ =>
    obtain ⟨x0, rfl, w0⟩ := op23 (hf t0 (by simp))
    obtain ⟨x1, rfl, w1⟩ := op23 (hf t1 (by simp))
    exact ⟨(x0, x1), rfl, ⟨w0, w1⟩⟩
end Ev
end Go.Proofs.Ytlcfdmjkbaegpaa
