import Derived.Test.YtjomjfjbpcafhaaDoorLyW0
import Derived.Test.YtjomjfjbpcafhaaDoorLyW1
import Derived.Test.YtjomjfjbpcafhaaDoorLyW2
import Derived.Test.YtjomjfjbpcafhaaDoorLyW3
import Derived.Test.YtjomjfjbpcafhaaDoorLyW4
import Derived.Test.YtjomjfjbpcafhaaDoorEvM
namespace Go.Proofs.YtjomjfjbpcafhaaDoor
namespace Ev
open Go
set_option linter.unusedVariables false
set_option linter.unusedSimpArgs false
set_option maxRecDepth 100000
set_option maxHeartbeats 1000000
attribute [local irreducible] OpsL StL TnL WpL EndL
def mem_20 : List (List TD × Kind × List TD) := [([.one (iT .i64 (70))], .fresh, [n70])]
theorem mem_20_ok : ∀ vs kind rs, memoF mem_20 vs = some (kind, rs) → PureOk Tryd.prog 20 vs kind rs ∧ Enters Tryd.prog 20 := memo_ok (fun vs kind rs h => (callers_ok E00_ok 300 60).1 _ _ _ _ h) _ (List.forall_mem_cons.2 ⟨memo_20_0, fun _ h => by cases h⟩)
def mem_24 : List (List TD × Kind × List TD) := [([n70, .one (iT .i64 (65)), .one (iT .i64 (9))], .fresh, [d70])]
theorem mem_24_ok : ∀ vs kind rs, memoF mem_24 vs = some (kind, rs) → PureOk Tryd.prog 24 vs kind rs ∧ Enters Tryd.prog 24 := memo_ok (fun vs kind rs h => (callers_ok E0_ok 300 60).1 _ _ _ _ h) _ (List.forall_mem_cons.2 ⟨memo_24_0, fun _ h => by cases h⟩)
def mem_22 : List (List TD × Kind × List TD) := [([d70, .one (iT .i64 (65))], .fresh, [.one (iT .i64 (9)), .one (.v (.bool true))]), ([d70, .one (iT .i64 (1))], .fresh, [.one (iT .i64 (0)), .one (.v (.bool false))])]
theorem mem_22_ok : ∀ vs kind rs, memoF mem_22 vs = some (kind, rs) → PureOk Tryd.prog 22 vs kind rs ∧ Enters Tryd.prog 22 := memo_ok (fun vs kind rs h => (callers_ok E0_ok 300 60).1 _ _ _ _ h) _ (List.forall_mem_cons.2 ⟨memo_22_0, List.forall_mem_cons.2 ⟨memo_22_1, fun _ h => by cases h⟩⟩)
def mem_15 : List (List TD × Kind × List TD) := [([d70], .fresh, [v70])]
theorem mem_15_ok : ∀ vs kind rs, memoF mem_15 vs = some (kind, rs) → PureOk Tryd.prog 15 vs kind rs ∧ Enters Tryd.prog 15 := memo_ok (fun vs kind rs h => (callers_ok E0_ok 300 60).1 _ _ _ _ h) _ (List.forall_mem_cons.2 ⟨memo_15_0, fun _ h => by cases h⟩)
def mem_28 : List (List TD × Kind × List TD) := [([d70], .fresh, [.one (iT .i64 (1))]), ([n70], .fresh, [.one (iT .i64 (0))])]
theorem mem_28_ok : ∀ vs kind rs, memoF mem_28 vs = some (kind, rs) → PureOk Tryd.prog 28 vs kind rs ∧ Enters Tryd.prog 28 := memo_ok (fun vs kind rs h => (callers_ok E0_ok 300 60).1 _ _ _ _ h) _ (List.forall_mem_cons.2 ⟨memo_28_0, List.forall_mem_cons.2 ⟨memo_28_1, fun _ h => by cases h⟩⟩)
def mem_18 : List (List TD × Kind × List TD) := [([v70], .fresh, [d70])]
theorem mem_18_ok : ∀ vs kind rs, memoF mem_18 vs = some (kind, rs) → PureOk Tryd.prog 18 vs kind rs ∧ Enters Tryd.prog 18 := memo_ok (fun vs kind rs h => (callers_ok E0_ok 300 60).1 _ _ _ _ h) _ (List.forall_mem_cons.2 ⟨memo_18_0, fun _ h => by cases h⟩)
def mem_35 : List (List TD × Kind × List TD) := [([d70, d70], .fresh, [.one (.v (.bool true))]), ([d70, n70], .fresh, [.one (.v (.bool false))])]
theorem mem_35_ok : ∀ vs kind rs, memoF mem_35 vs = some (kind, rs) → PureOk Tryd.prog 35 vs kind rs ∧ Enters Tryd.prog 35 := memo_ok (fun vs kind rs h => (callers_ok E0_ok 300 60).1 _ _ _ _ h) _ (List.forall_mem_cons.2 ⟨memo_35_0, List.forall_mem_cons.2 ⟨memo_35_1, fun _ h => by cases h⟩⟩)
def mem_12 : List (List TD × Kind × List TD) := [([d70], .fresh, [.one (.v (.bool true))]), ([.agg [iT .i64 1, .s false 0 [], .s false 0 []]], .fresh, [.one (.v (.bool false))])]
theorem mem_12_ok : ∀ vs kind rs, memoF mem_12 vs = some (kind, rs) → PureOk Tryd.prog 12 vs kind rs ∧ Enters Tryd.prog 12 := memo_ok (fun vs kind rs h => (callers_ok E0_ok 300 60).1 _ _ _ _ h) _ (List.forall_mem_cons.2 ⟨memo_12_0, List.forall_mem_cons.2 ⟨memo_12_1, fun _ h => by cases h⟩⟩)
def mem_26 : List (List TD × Kind × List TD) := [([d70, .one (iT .i64 (65))], .fresh, [n70])]
theorem mem_26_ok : ∀ vs kind rs, memoF mem_26 vs = some (kind, rs) → PureOk Tryd.prog 26 vs kind rs ∧ Enters Tryd.prog 26 := memo_ok (fun vs kind rs h => (callers_ok E0_ok 300 60).1 _ _ _ _ h) _ (List.forall_mem_cons.2 ⟨memo_26_0, fun _ h => by cases h⟩)
def mem_30 : List (List TD × Kind × List TD) := [([d70, .one (.s false 0 [])], .fresh, [n70])]
theorem mem_30_ok : ∀ vs kind rs, memoF mem_30 vs = some (kind, rs) → PureOk Tryd.prog 30 vs kind rs ∧ Enters Tryd.prog 30 := memo_ok (fun vs kind rs h => (callers_ok E0_ok 300 60).1 _ _ _ _ h) _ (List.forall_mem_cons.2 ⟨memo_30_0, fun _ h => by cases h⟩)
def mem_32 : List (List TD × Kind × List TD) := [([d70, .one (iT .i64 (60)), .one (iT .i64 (70))], .fresh, [p10])]
theorem mem_32_ok : ∀ vs kind rs, memoF mem_32 vs = some (kind, rs) → PureOk Tryd.prog 32 vs kind rs ∧ Enters Tryd.prog 32 := memo_ok (fun vs kind rs h => (callers_ok E0_ok 300 60).1 _ _ _ _ h) _ (List.forall_mem_cons.2 ⟨memo_32_0, fun _ h => by cases h⟩)
def memAx : Ax := (addAx (addAx (addAx (addAx (addAx (addAx (addAx (addAx (addAx (addAx (addAx inlAx 20 (memoF mem_20)) 24 (memoF mem_24)) 22 (memoF mem_22)) 15 (memoF mem_15)) 28 (memoF mem_28)) 18 (memoF mem_18)) 35 (memoF mem_35)) 12 (memoF mem_12)) 26 (memoF mem_26)) 30 (memoF mem_30)) 32 (memoF mem_32))
noncomputable def E0M : Env := envOf Tryd.prog memAx
theorem E0M_ok : E0M.Ok := envOf_ok mixed0 names0 (axOk_add (axOk_add (axOk_add (axOk_add (axOk_add (axOk_add (axOk_add (axOk_add (axOk_add (axOk_add (axOk_add inlAx_ok mem_20_ok) mem_24_ok) mem_22_ok) mem_15_ok) mem_28_ok) mem_18_ok) mem_35_ok) mem_12_ok) mem_26_ok) mem_30_ok) mem_32_ok)
theorem live0 : (callers E0M 300 60).1 10 [] = some (.fresh, [.one (.v (.bool true))]) := by kernel_rfl
def liveF : List TD → Option (Kind × List TD)
 | [] => some (.fresh, [.one (.v (.bool true))])
 | _ => none
def liveAx : Ax := addAx inlAx 10 liveF
noncomputable def E1 : Env := envOf Tryd.prog liveAx
theorem E1_ok : E1.Ok := envOf_ok mixed0 names0 (axOk_add inlAx_ok fun vs kind rs h => by
 unfold liveF at h
 split at h
 ·simp only [Option.some.injEq, Prod.mk.injEq] at h
  obtain ⟨rfl, rfl⟩ := h
  exact (callers_ok E0M_ok 300 60).1 _ _ _ _ live0
 ·simp at h)
theorem E1_fn : E1.fn = fiOf Tryd.prog := envOf_fn _ _
def FL : Option Bool := some true
theorem FL_r (m : Nat) {out : Bool} (h : FL = some out) : RunsP E1 (m + 1) 10 [] (.fresh, [.one (bT out)]) := by
 obtain rfl := Option.some.inj h
 exact runsP_ax (F := liveF) rfl rfl
theorem TZ_r (m : Nat) {n1 : Int} {out : Int} (h : TZ n1 = some out) : RunsP E1 (m + 1) 102 [.one (iT .u64 n1)] (.fresh, [.one (iT .i64 out)]) := by
 unfold TZ at h
 split at h
 ·rename_i hx
  obtain rfl := Option.some.inj h
  exact runsP_ax (F := tzF) rfl (by show tzF [.one (.v (.int .u64 n1))] = _; unfold tzF; simp only; exact if_pos hx)
 ·simp at h
theorem ax20 : E1.ax 20 = some fun _ => none := rfl
theorem ax50 : E1.ax 50 = some fun _ => none := rfl
theorem ax94 : E1.ax 94 = some fun _ => none := rfl
theorem ty1 : E1.ti 1 = some (⟨.func #[] #[] false, [.nilFunc], 1, 8⟩ : TI) := tz1
theorem ty2 : E1.ti 2 = some (⟨.int .i64, [.int .i64 0], 1, 8⟩ : TI) := tz2
theorem ty3 : E1.ti 3 = some (⟨.int .i64, [.int .i64 0], 1, 8⟩ : TI) := tz3
theorem ty22 : E1.ti 22 = some (⟨.slice 85, [.slice none 0 0], 1, 24⟩ : TI) := tz22
theorem ty23 : E1.ti 23 = some (⟨.slice 2, [.slice none 0 0], 1, 24⟩ : TI) := tz23
theorem ty25 : E1.ti 25 = some (⟨.struct (flds Tryd.prog 25), [.int .i64 0, .slice none 0 0, .slice none 0 0], 3, 56⟩ : TI) := tz25
theorem ty26 : E1.ti 26 = some (⟨.slice 39, [.slice none 0 0], 1, 24⟩ : TI) := tz26
theorem ty28 : E1.ti 28 = some (⟨.struct (flds Tryd.prog 28), [.int .i64 0, .slice none 0 0], 2, 32⟩ : TI) := tz28
theorem ty39 : E1.ti 39 = some (⟨.struct (flds Tryd.prog 39), [.int .i64 0, .int .i64 0], 2, 16⟩ : TI) := tz39
theorem ty71 : E1.ti 71 = some (⟨.slice 3, [.slice none 0 0], 1, 24⟩ : TI) := tz71
theorem ty85 : E1.ti 85 = some (⟨.int .u64, [.int .u64 0], 1, 8⟩ : TI) := tz85
theorem ty107 : E1.ti 107 = some (⟨.slice 109, [.slice none 0 0], 1, 24⟩ : TI) := tz107
theorem ty109 : E1.ti 109 = some (⟨.struct (flds Tryd.prog 109), [.int .i64 0, .int .i64 0, .int .i64 0], 3, 24⟩ : TI) := tz109
theorem ty115 : E1.ti 115 = some (⟨.slice 118, [.slice none 0 0], 1, 24⟩ : TI) := tz115
theorem ty118 : E1.ti 118 = some (⟨.struct (flds Tryd.prog 118), [.int .i64 0, .int .u64 0], 2, 16⟩ : TI) := tz118
end Ev
end Go.Proofs.YtjomjfjbpcafhaaDoor
