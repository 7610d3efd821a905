import Derived.Test.YtlcfdmjkbaegpaaDoorLy1
namespace Go.Proofs.YtlcfdmjkbaegpaaDoor
namespace Ev
open Go
set_option linter.unusedVariables false
set_option linter.unusedSimpArgs false
set_option maxRecDepth 100000
set_option maxHeartbeats 1000000
attribute [local irreducible] OpsL StL TnL WpL EndL
theorem op3 {ts : List T} (h : Typ Tryd.prog 3 ts) : ∃ x : Int, ts = [iT .i64 x] ∧ inK .i64 x := typ_int (by kernel_rfl) h
def W3 (x : Int) : Prop := inK .i64 x
theorem op22 {ts : List T} (h : Typ Tryd.prog 22 ts) : ∃ x : Int, ts = [iT .i64 x] ∧ inK .i64 x := typ_int (by kernel_rfl) h
def W22 (x : Int) : Prop := inK .i64 x
theorem op5 {ts : List T} (h : Typ Tryd.prog 5 ts) : ∃ x : Int, ts = [iT .u8 x] ∧ inK .u8 x := typ_int (by kernel_rfl) h
def W5 (x : Int) : Prop := inK .u8 x
def W23 (x : Int × Int) : Prop := W5 x.1 ∧ W5 x.2
theorem op23 {ts : List T} (h : Typ Tryd.prog 23 ts) : ∃ x : Int × Int, ts = r23 x ∧ W23 x := by
 obtain ⟨tss, rfl, hl, hf⟩ := typ_array (n := 2) (e := 5) (by kernel_rfl) h
 match tss, hl with
 | [t0, t1], _ =>
  obtain ⟨x0, rfl, w0⟩ := op5 (hf t0 (by simp))
  obtain ⟨x1, rfl, w1⟩ := op5 (hf t1 (by simp))
  exact ⟨(x0, x1), rfl, ⟨w0, w1⟩⟩
theorem op2 {ts : List T} (h : Typ Tryd.prog 2 ts) : ∃ x : Int, ts = [iT .i64 x] ∧ inK .i64 x := typ_int (by kernel_rfl) h
def W2 (x : Int) : Prop := inK .i64 x
def W93 (x : Int × Int × Int) : Prop := W3 x.1 ∧ W3 x.2.1 ∧ W2 x.2.2
theorem op93 {ts : List T} (h : Typ Tryd.prog 93 ts) : ∃ x : Int × Int × Int, ts = r92 x ∧ W93 x := by
 obtain ⟨tss, rfl, hl, hf⟩ := typ_struct (fs := flds Tryd.prog 92) (by kernel_rfl) h
 rw [show (flds Tryd.prog 92).toList = [fld Tryd.prog 92 0, fld Tryd.prog 92 1, fld Tryd.prog 92 2] by kernel_rfl] at hl hf
 match tss, hl with
 | [t0, t1, t2], _ =>
  have g0 : Typ Tryd.prog 3 t0 := by have := hf 0 _ _ rfl rfl; rwa [show (fld Tryd.prog 92 0).type = 3 by kernel_rfl] at this
  obtain ⟨x0, rfl, w0⟩ := op3 g0
  have g1 : Typ Tryd.prog 3 t1 := by have := hf 1 _ _ rfl rfl; rwa [show (fld Tryd.prog 92 1).type = 3 by kernel_rfl] at this
  obtain ⟨x1, rfl, w1⟩ := op3 g1
  have g2 : Typ Tryd.prog 2 t2 := by have := hf 2 _ _ rfl rfl; rwa [show (fld Tryd.prog 92 2).type = 2 by kernel_rfl] at this
  obtain ⟨x2, rfl, w2⟩ := op2 g2
  exact ⟨(x0, x1, x2), rfl, ⟨w0, w1, w2⟩⟩
def W24 (x : Sl (Int × Int × Int)) : Prop := SlW 3 W93 x
theorem op24 {ts : List T} (h : Typ Tryd.prog 24 ts) : ∃ x : Sl (Int × Int × Int), ts = [Sl.t r92 x] ∧ W24 x := typ_slice (r := r92) (Q := W93) (w := 3) (by kernel_rfl) (by kernel_rfl) (fun ts h => op93 h) h
def W71 (x : Int × Int) : Prop := W3 x.1 ∧ W2 x.2
theorem op71 {ts : List T} (h : Typ Tryd.prog 71 ts) : ∃ x : Int × Int, ts = r70 x ∧ W71 x := by
 obtain ⟨tss, rfl, hl, hf⟩ := typ_struct (fs := flds Tryd.prog 70) (by kernel_rfl) h
 rw [show (flds Tryd.prog 70).toList = [fld Tryd.prog 70 0, fld Tryd.prog 70 1] by kernel_rfl] at hl hf
 match tss, hl with
 | [t0, t1], _ =>
  have g0 : Typ Tryd.prog 3 t0 := by have := hf 0 _ _ rfl rfl; rwa [show (fld Tryd.prog 70 0).type = 3 by kernel_rfl] at this
  obtain ⟨x0, rfl, w0⟩ := op3 g0
  have g1 : Typ Tryd.prog 2 t1 := by have := hf 1 _ _ rfl rfl; rwa [show (fld Tryd.prog 70 1).type = 2 by kernel_rfl] at this
  obtain ⟨x1, rfl, w1⟩ := op2 g1
  exact ⟨(x0, x1), rfl, ⟨w0, w1⟩⟩
def W25 (x : Sl (Int × Int)) : Prop := SlW 2 W71 x
theorem op25 {ts : List T} (h : Typ Tryd.prog 25 ts) : ∃ x : Sl (Int × Int), ts = [Sl.t r70 x] ∧ W25 x := typ_slice (r := r70) (Q := W71) (w := 2) (by kernel_rfl) (by kernel_rfl) (fun ts h => op71 h) h
theorem op60 {ts : List T} (h : Typ Tryd.prog 60 ts) : ∃ x : Int, ts = [iT .u64 x] ∧ inK .u64 x := typ_int (by kernel_rfl) h
def W60 (x : Int) : Prop := inK .u64 x
def W26 (x : Sl (Int)) : Prop := SlW 1 W60 x
theorem op26 {ts : List T} (h : Typ Tryd.prog 26 ts) : ∃ x : Sl (Int), ts = [Sl.t r60 x] ∧ W26 x := typ_slice (r := r60) (Q := W60) (w := 1) (by kernel_rfl) (by kernel_rfl) (fun ts h => op60 h) h
theorem op4 {ts : List T} (h : Typ Tryd.prog 4 ts) : ∃ x : Bool, ts = [bT x] ∧ True := typ_bool (by kernel_rfl) h
def W4 (x : Bool) : Prop := True
def W28 (x : Int × (Int × Int) × (Sl (Int × Int × Int)) × (Sl (Int × Int)) × (Sl (Int × Int)) × Sl (Int) × Bool) : Prop := W22 x.1 ∧ W23 x.2.1 ∧ W24 x.2.2.1 ∧ W25 x.2.2.2.1 ∧ W25 x.2.2.2.2.1 ∧ W26 x.2.2.2.2.2.1 ∧ W4 x.2.2.2.2.2.2
theorem op28 {ts : List T} (h : Typ Tryd.prog 28 ts) : ∃ x : Int × (Int × Int) × (Sl (Int × Int × Int)) × (Sl (Int × Int)) × (Sl (Int × Int)) × Sl (Int) × Bool, ts = r27 x ∧ W28 x := by
 obtain ⟨tss, rfl, hl, hf⟩ := typ_struct (fs := flds Tryd.prog 27) (by kernel_rfl) h
 rw [show (flds Tryd.prog 27).toList = [fld Tryd.prog 27 0, fld Tryd.prog 27 1, fld Tryd.prog 27 2, fld Tryd.prog 27 3, fld Tryd.prog 27 4, fld Tryd.prog 27 5, fld Tryd.prog 27 6] by kernel_rfl] at hl hf
 match tss, hl with
 | [t0, t1, t2, t3, t4, t5, t6], _ =>
  have g0 : Typ Tryd.prog 22 t0 := by have := hf 0 _ _ rfl rfl; rwa [show (fld Tryd.prog 27 0).type = 22 by kernel_rfl] at this
  obtain ⟨x0, rfl, w0⟩ := op22 g0
  have g1 : Typ Tryd.prog 23 t1 := by have := hf 1 _ _ rfl rfl; rwa [show (fld Tryd.prog 27 1).type = 23 by kernel_rfl] at this
  obtain ⟨x1, rfl, w1⟩ := op23 g1
  have g2 : Typ Tryd.prog 24 t2 := by have := hf 2 _ _ rfl rfl; rwa [show (fld Tryd.prog 27 2).type = 24 by kernel_rfl] at this
  obtain ⟨x2, rfl, w2⟩ := op24 g2
  have g3 : Typ Tryd.prog 25 t3 := by have := hf 3 _ _ rfl rfl; rwa [show (fld Tryd.prog 27 3).type = 25 by kernel_rfl] at this
  obtain ⟨x3, rfl, w3⟩ := op25 g3
  have g4 : Typ Tryd.prog 25 t4 := by have := hf 4 _ _ rfl rfl; rwa [show (fld Tryd.prog 27 4).type = 25 by kernel_rfl] at this
  obtain ⟨x4, rfl, w4⟩ := op25 g4
  have g5 : Typ Tryd.prog 26 t5 := by have := hf 5 _ _ rfl rfl; rwa [show (fld Tryd.prog 27 5).type = 26 by kernel_rfl] at this
  obtain ⟨x5, rfl, w5⟩ := op26 g5
  have g6 : Typ Tryd.prog 4 t6 := by have := hf 6 _ _ rfl rfl; rwa [show (fld Tryd.prog 27 6).type = 4 by kernel_rfl] at this
  obtain ⟨x6, rfl, w6⟩ := op4 g6
  exact ⟨(x0, x1, x2, x3, x4, x5, x6), rfl, ⟨w0, w1, w2, w3, w4, w5, w6⟩⟩
end Ev
end Go.Proofs.YtlcfdmjkbaegpaaDoor
