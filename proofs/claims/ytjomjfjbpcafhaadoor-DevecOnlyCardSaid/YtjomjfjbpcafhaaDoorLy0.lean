import Derived.Test.YtjomjfjbpcafhaaDoorLyW0
import Derived.Test.YtjomjfjbpcafhaaDoorLyW1
import Derived.Test.YtjomjfjbpcafhaaDoorLyW2
import Derived.Test.YtjomjfjbpcafhaaDoorLyW3
import Derived.Test.YtjomjfjbpcafhaaDoorLyW4
import Derived.Test.YtjomjfjbpcafhaaDoorEvM
namespace Go.Proofs.YtjomjfjbpcafhaaDoor
namespace Ev
open Go
set_option linter.unusedVariables false
set_option linter.unusedSimpArgs false
set_option maxRecDepth 100000
set_option maxHeartbeats 1000000
attribute [local irreducible] OpsL StL TnL WpL EndL
def mem_20 : List (List TD × Kind × List TD) := [([.one (iT .i64 (70))], .fresh, [n70])]
theorem mem_20_ok : ∀ vs kind rs, memoF mem_20 vs = some (kind, rs) → PureOk Tryd.prog 20 vs kind rs ∧ Enters Tryd.prog 20 := memo_ok (fun vs kind rs h => (callers_ok E00_ok 300 60).1 _ _ _ _ h) _ (List.forall_mem_cons.2 ⟨memo_20_0, fun _ h => by cases h⟩)
def mem_24 : List (List TD × Kind × List TD) := [([n70, .one (iT .i64 (65)), .one (iT .i64 (9))], .fresh, [d70])]
theorem mem_24_ok : ∀ vs kind rs, memoF mem_24 vs = some (kind, rs) → PureOk Tryd.prog 24 vs kind rs ∧ Enters Tryd.prog 24 := memo_ok (fun vs kind rs h => (callers_ok E0_ok 300 60).1 _ _ _ _ h) _ (List.forall_mem_cons.2 ⟨memo_24_0, fun _ h => by cases h⟩)
def mem_22 : List (List TD × Kind × List TD) := [([d70, .one (iT .i64 (65))], .fresh, [.one (iT .i64 (9)), .one (.v (.bool true))]), ([d70, .one (iT .i64 (1))], .fresh, [.one (iT .i64 (0)), .one (.v (.bool false))])]
theorem mem_22_ok : ∀ vs kind rs, memoF mem_22 vs = some (kind, rs) → PureOk Tryd.prog 22 vs kind rs ∧ Enters Tryd.prog 22 := memo_ok (fun vs kind rs h => (callers_ok E0_ok 300 60).1 _ _ _ _ h) _ (List.forall_mem_cons.2 ⟨memo_22_0, List.forall_mem_cons.2 ⟨memo_22_1, fun _ h => by cases h⟩⟩)
def mem_15 : List (List TD × Kind × List TD) := [([d70], .fresh, [v70])]
theorem mem_15_ok : ∀ vs kind rs, memoF mem_15 vs = some (kind, rs) → PureOk Tryd.prog 15 vs kind rs ∧ Enters Tryd.prog 15 := memo_ok (fun vs kind rs h => (callers_ok E0_ok 300 60).1 _ _ _ _ h) _ (List.forall_mem_cons.2 ⟨memo_15_0, fun _ h => by cases h⟩)
def mem_28 : List (List TD × Kind × List TD) := [([d70], .fresh, [.one (iT .i64 (1))]), ([n70], .fresh, [.one (iT .i64 (0))])]
theorem mem_28_ok : ∀ vs kind rs, memoF mem_28 vs = some (kind, rs) → PureOk Tryd.prog 28 vs kind rs ∧ Enters Tryd.prog 28 := memo_ok (fun vs kind rs h => (callers_ok E0_ok 300 60).1 _ _ _ _ h) _ (List.forall_mem_cons.2 ⟨memo_28_0, List.forall_mem_cons.2 ⟨memo_28_1, fun _ h => by cases h⟩⟩)
def mem_18 : List (List TD × Kind × List TD) := [([v70], .fresh, [d70])]
theorem mem_18_ok : ∀ vs kind rs, memoF mem_18 vs = some (kind, rs) → PureOk Tryd.prog 18 vs kind rs ∧ Enters Tryd.prog 18 := memo_ok (fun vs kind rs h => (callers_ok E0_ok 300 60).1 _ _ _ _ h) _ (List.forall_mem_cons.2 ⟨memo_18_0, fun _ h => by cases h⟩)
def mem_35 : List (List TD × Kind × List TD) := [([d70, d70], .fresh, [.one (.v (.bool true))]), ([d70, n70], .fresh, [.one (.v (.bool false))])]
theorem mem_35_ok : ∀ vs kind rs, memoF mem_35 vs = some (kind, rs) → PureOk Tryd.prog 35 vs kind rs ∧ Enters Tryd.prog 35 := memo_ok (fun vs kind rs h => (callers_ok E0_ok 300 60).1 _ _ _ _ h) _ (List.forall_mem_cons.2 ⟨memo_35_0, List.forall_mem_cons.2 ⟨memo_35_1, fun _ h => by cases h⟩⟩)
def mem_12 : List (List TD × Kind × List TD) := [([d70], .fresh, [.one (.v (.bool true))]), ([.agg [iT .i64 1, .s false 0 [], .s false 0 []]], .fresh, [.one (.v (.bool false))])]
theorem mem_12_ok : ∀ vs kind rs, memoF mem_12 vs = some (kind, rs) → PureOk Tryd.prog 12 vs kind rs ∧ Enters Tryd.prog 12 := memo_ok (fun vs kind rs h => (callers_ok E0_ok 300 60).1 _ _ _ _ h) _ (List.forall_mem_cons.2 ⟨memo_12_0, List.forall_mem_cons.2 ⟨memo_12_1, fun _ h => by cases h⟩⟩)
def mem_26 : List (List TD × Kind × List TD) := [([d70, .one (iT .i64 (65))], .fresh, [n70])]
theorem mem_26_ok : ∀ vs kind rs, memoF mem_26 vs = some (kind, rs) → PureOk Tryd.prog 26 vs kind rs ∧ Enters Tryd.prog 26 := memo_ok (fun vs kind rs h => (callers_ok E0_ok 300 60).1 _ _ _ _ h) _ (List.forall_mem_cons.2 ⟨memo_26_0, fun _ h => by cases h⟩)
def mem_30 : List (List TD × Kind × List TD) := [([d70, .one (.s false 0 [])], .fresh, [n70])]
theorem mem_30_ok : ∀ vs kind rs, memoF mem_30 vs = some (kind, rs) → PureOk Tryd.prog 30 vs kind rs ∧ Enters Tryd.prog 30 := memo_ok (fun vs kind rs h => (callers_ok E0_ok 300 60).1 _ _ _ _ h) _ (List.forall_mem_cons.2 ⟨memo_30_0, fun _ h => by cases h⟩)
def mem_32 : List (List TD × Kind × List TD) := [([d70, .one (iT .i64 (60)), .one (iT .i64 (70))], .fresh, [p10])]
theorem mem_32_ok : ∀ vs kind rs, memoF mem_32 vs = some (kind, rs) → PureOk Tryd.prog 32 vs kind rs ∧ Enters Tryd.prog 32 := memo_ok (fun vs kind rs h => (callers_ok E0_ok 300 60).1 _ _ _ _ h) _ (List.forall_mem_cons.2 ⟨memo_32_0, fun _ h => by cases h⟩)
def memAx : Ax := (addAx (addAx (addAx (addAx (addAx (addAx (addAx (addAx (addAx (addAx (addAx inlAx 20 (memoF mem_20)) 24 (memoF mem_24)) 22 (memoF mem_22)) 15 (memoF mem_15)) 28 (memoF mem_28)) 18 (memoF mem_18)) 35 (memoF mem_35)) 12 (memoF mem_12)) 26 (memoF mem_26)) 30 (memoF mem_30)) 32 (memoF mem_32))
noncomputable def E0M : Env := envOf Tryd.prog memAx
theorem E0M_ok : E0M.Ok := envOf_ok mixed0 names0 (axOk_add (axOk_add (axOk_add (axOk_add (axOk_add (axOk_add (axOk_add (axOk_add (axOk_add (axOk_add (axOk_add inlAx_ok mem_20_ok) mem_24_ok) mem_22_ok) mem_15_ok) mem_28_ok) mem_18_ok) mem_35_ok) mem_12_ok) mem_26_ok) mem_30_ok) mem_32_ok)
theorem live0 : (callers E0M 300 60).1 10 [] = some (.fresh, [.one (.v (.bool true))]) := by kernel_rfl
def liveF : List TD → Option (Kind × List TD)
  | [] => some (.fresh, [.one (.v (.bool true))])
  | _ => none
def liveAx : Ax := addAx inlAx 10 liveF
noncomputable def E1 : Env := envOf Tryd.prog liveAx
theorem E1_ok : E1.Ok := envOf_ok mixed0 names0 (axOk_add inlAx_ok fun vs kind rs h => by
  unfold liveF at h
  split at h
  · simp only [Option.some.injEq, Prod.mk.injEq] at h
    obtain ⟨rfl, rfl⟩ := h
    exact (callers_ok E0M_ok 300 60).1 _ _ _ _ live0
  · simp at h)
theorem E1_ti : E1.ti = tiOf Tryd.prog := envOf_ti _ _
theorem E1_P : E1.P = Tryd.prog := envOf_P _ _
theorem E1_fn : E1.fn = fiOf Tryd.prog := envOf_fn _ _
def FL : Option Bool := some true
theorem FL_r (m : Nat) {out : Bool} (h : FL = some out) : RunsP E1 (m + 1) 10 [] (.fresh, [.one (bT out)]) := by
  obtain rfl := Option.some.inj h
  exact runsP_ax (F := liveF) rfl rfl
theorem TZ_r (m : Nat) {n1 : Int} {out : Int} (h : TZ n1 = some out) : RunsP E1 (m + 1) 102 [.one (iT .u64 n1)] (.fresh, [.one (iT .i64 out)]) := by
  unfold TZ at h
  split at h
  · rename_i hx
    obtain rfl := Option.some.inj h
    exact runsP_ax (F := tzF) rfl (by show tzF [.one (.v (.int .u64 n1))] = _; unfold tzF; simp only; exact if_pos hx)
  · simp at h
theorem ax20 : E1.ax 20 = some fun _ => none := rfl
theorem ax21 : E1.ax 21 = some fun _ => none := rfl
theorem ax50 : E1.ax 50 = some fun _ => none := rfl
theorem ax62 : E1.ax 62 = some fun _ => none := rfl
theorem ax92 : E1.ax 92 = some fun _ => none := rfl
theorem ax94 : E1.ax 94 = some fun _ => none := rfl
theorem ax97 : E1.ax 97 = some fun _ => none := rfl
theorem ty1 : E1.ti 1 = some (⟨.func #[] #[] false, [.nilFunc], 1, 8⟩ : TI) := tz1
theorem ty2 : E1.ti 2 = some (⟨.int .i64, [.int .i64 0], 1, 8⟩ : TI) := tz2
theorem ty3 : E1.ti 3 = some (⟨.int .i64, [.int .i64 0], 1, 8⟩ : TI) := tz3
theorem ty4 : E1.ti 4 = some (⟨.bool, [.bool false], 1, 1⟩ : TI) := tz4
theorem ty5 : E1.ti 5 = some (⟨.int .u8, [.int .u8 0], 1, 1⟩ : TI) := tz5
theorem ty6 : E1.ti 6 = some (⟨.int .u8, [.int .u8 0], 1, 1⟩ : TI) := tz6
theorem ty7 : E1.ti 7 = some (⟨.struct (flds Tryd.prog 7), [.int .i64 0, .int .i64 0, .bool false, .int .u8 0], 4, 24⟩ : TI) := tz7
theorem ty8 : E1.ti 8 = some (⟨.struct (flds Tryd.prog 8), [.int .i64 0, .int .i64 0, .bool false, .int .u8 0], 4, 24⟩ : TI) := tz8
theorem ty12 : E1.ti 12 = some (⟨.int .u64, [.int .u64 0], 1, 8⟩ : TI) := tz12
theorem ty15 : E1.ti 15 = some (⟨.pointer 129, [.pointer none], 1, 8⟩ : TI) := tz15
theorem ty16 : E1.ti 16 = some (⟨.pointer 132, [.pointer none], 1, 8⟩ : TI) := tz16
theorem ty17 : E1.ti 17 = some (⟨.pointer 142, [.pointer none], 1, 8⟩ : TI) := tz17
theorem ty18 : E1.ti 18 = some (⟨.struct (flds Tryd.prog 18), [.pointer none], 1, 8⟩ : TI) := tz18
theorem ty19 : E1.ti 19 = some (⟨.struct (flds Tryd.prog 19), [.pointer none], 1, 8⟩ : TI) := tz19
theorem ty21 : E1.ti 21 = some (⟨.int .i32, [.int .i32 0], 1, 4⟩ : TI) := tz21
theorem ty22 : E1.ti 22 = some (⟨.slice 85, [.slice none 0 0], 1, 24⟩ : TI) := tz22
theorem ty23 : E1.ti 23 = some (⟨.slice 2, [.slice none 0 0], 1, 24⟩ : TI) := tz23
theorem ty24 : E1.ti 24 = some (⟨.struct (flds Tryd.prog 24), [.int .i64 0, .slice none 0 0, .slice none 0 0], 3, 56⟩ : TI) := tz24
theorem ty25 : E1.ti 25 = some (⟨.struct (flds Tryd.prog 25), [.int .i64 0, .slice none 0 0, .slice none 0 0], 3, 56⟩ : TI) := tz25
theorem ty26 : E1.ti 26 = some (⟨.slice 39, [.slice none 0 0], 1, 24⟩ : TI) := tz26
theorem ty27 : E1.ti 27 = some (⟨.struct (flds Tryd.prog 27), [.int .i64 0, .slice none 0 0], 2, 32⟩ : TI) := tz27
theorem ty28 : E1.ti 28 = some (⟨.struct (flds Tryd.prog 28), [.int .i64 0, .slice none 0 0], 2, 32⟩ : TI) := tz28
theorem ty29 : E1.ti 29 = some (⟨.func #[28] #[28] false, [.nilFunc], 1, 8⟩ : TI) := tz29
theorem ty30 : E1.ti 30 = some (⟨.func #[] #[4] false, [.nilFunc], 1, 8⟩ : TI) := tz30
theorem ty31 : E1.ti 31 = some (⟨.func #[25] #[4] false, [.nilFunc], 1, 8⟩ : TI) := tz31
theorem ty32 : E1.ti 32 = some (⟨.func #[28, 28] #[4] false, [.nilFunc], 1, 8⟩ : TI) := tz32
theorem ty33 : E1.ti 33 = some (⟨.func #[25] #[28] false, [.nilFunc], 1, 8⟩ : TI) := tz33
theorem ty34 : E1.ti 34 = some (⟨.func #[25, 25] #[4] false, [.nilFunc], 1, 8⟩ : TI) := tz34
theorem ty35 : E1.ti 35 = some (⟨.func #[28] #[25] false, [.nilFunc], 1, 8⟩ : TI) := tz35
theorem ty36 : E1.ti 36 = some (⟨.func #[3] #[25] false, [.nilFunc], 1, 8⟩ : TI) := tz36
theorem ty37 : E1.ti 37 = some (⟨.func #[25, 28, 3] #[4] false, [.nilFunc], 1, 8⟩ : TI) := tz37
theorem ty38 : E1.ti 38 = some (⟨.struct (flds Tryd.prog 38), [.int .i64 0, .int .i64 0], 2, 16⟩ : TI) := tz38
theorem ty39 : E1.ti 39 = some (⟨.struct (flds Tryd.prog 39), [.int .i64 0, .int .i64 0], 2, 16⟩ : TI) := tz39
theorem ty40 : E1.ti 40 = some (⟨.array 2 39, [.int .i64 0, .int .i64 0, .int .i64 0, .int .i64 0], 4, 32⟩ : TI) := tz40
theorem ty42 : E1.ti 42 = some (⟨.func #[25, 3] #[2, 4] false, [.nilFunc], 1, 8⟩ : TI) := tz42
theorem ty43 : E1.ti 43 = some (⟨.func #[25, 3, 2] #[25] false, [.nilFunc], 1, 8⟩ : TI) := tz43
theorem ty44 : E1.ti 44 = some (⟨.func #[25, 3] #[25] false, [.nilFunc], 1, 8⟩ : TI) := tz44
theorem ty45 : E1.ti 45 = some (⟨.func #[25] #[3] false, [.nilFunc], 1, 8⟩ : TI) := tz45
theorem ty46 : E1.ti 46 = some (⟨.func #[25, 22] #[25] false, [.nilFunc], 1, 8⟩ : TI) := tz46
theorem ty47 : E1.ti 47 = some (⟨.func #[25, 3, 3] #[25] false, [.nilFunc], 1, 8⟩ : TI) := tz47
theorem ty48 : E1.ti 48 = some (⟨.func #[25, 40, 22] #[4] false, [.nilFunc], 1, 8⟩ : TI) := tz48
theorem ty49 : E1.ti 49 = some (⟨.func #[5, 26] #[28] false, [.nilFunc], 1, 8⟩ : TI) := tz49
theorem ty50 : E1.ti 50 = some (⟨.func #[5, 26] #[4] false, [.nilFunc], 1, 8⟩ : TI) := tz50
theorem ty51 : E1.ti 51 = some (⟨.array 3 3, [.int .i64 0, .int .i64 0, .int .i64 0], 3, 24⟩ : TI) := tz51
theorem ty52 : E1.ti 52 = some (⟨.func #[28, 3] #[2, 4] false, [.nilFunc], 1, 8⟩ : TI) := tz52
theorem ty53 : E1.ti 53 = some (⟨.func #[28, 3, 2] #[28] false, [.nilFunc], 1, 8⟩ : TI) := tz53
theorem ty54 : E1.ti 54 = some (⟨.func #[28, 3] #[28] false, [.nilFunc], 1, 8⟩ : TI) := tz54
theorem ty55 : E1.ti 55 = some (⟨.func #[28, 3, 3] #[28] false, [.nilFunc], 1, 8⟩ : TI) := tz55
theorem ty56 : E1.ti 56 = some (⟨.func #[5, 26, 51] #[4] false, [.nilFunc], 1, 8⟩ : TI) := tz56
theorem ty57 : E1.ti 57 = some (⟨.func #[22, 3] #[22] false, [.nilFunc], 1, 8⟩ : TI) := tz57
theorem ty58 : E1.ti 58 = some (⟨.func #[5, 26, 22] #[4] false, [.nilFunc], 1, 8⟩ : TI) := tz58
theorem ty59 : E1.ti 59 = some (⟨.array 2 5, [.int .u8 0, .int .u8 0], 2, 2⟩ : TI) := tz59
theorem ty60 : E1.ti 60 = some (⟨.int .i64, [.int .i64 0], 1, 8⟩ : TI) := tz60
theorem ty62 : E1.ti 62 = some (⟨.func #[92] #[28, 60] true, [.nilFunc], 1, 8⟩ : TI) := tz62
theorem ty63 : E1.ti 63 = some (⟨.func #[3, 2] #[28] false, [.nilFunc], 1, 8⟩ : TI) := tz63
theorem ty64 : E1.ti 64 = some (⟨.func #[5, 26, 59] #[4] false, [.nilFunc], 1, 8⟩ : TI) := tz64
theorem ty65 : E1.ti 65 = some (⟨.func #[22, 3] #[4] false, [.nilFunc], 1, 8⟩ : TI) := tz65
theorem ty66 : E1.ti 66 = some (⟨.func #[26, 26] #[4] false, [.nilFunc], 1, 8⟩ : TI) := tz66
theorem ty67 : E1.ti 67 = some (⟨.func #[25] #[25] false, [.nilFunc], 1, 8⟩ : TI) := tz67
theorem ty68 : E1.ti 68 = some (⟨.func #[98] #[] false, [.nilFunc], 1, 8⟩ : TI) := tz68
theorem ty69 : E1.ti 69 = some (⟨.func #[98] #[] false, [.nilFunc], 1, 8⟩ : TI) := tz69
theorem ty70 : E1.ti 70 = some (⟨.func #[25] #[69] false, [.nilFunc], 1, 8⟩ : TI) := tz70
theorem ty71 : E1.ti 71 = some (⟨.slice 3, [.slice none 0 0], 1, 24⟩ : TI) := tz71
theorem ty72 : E1.ti 72 = some (⟨.func #[22] #[71] false, [.nilFunc], 1, 8⟩ : TI) := tz72
theorem ty73 : E1.ti 73 = some (⟨.func #[22, 22] #[4] false, [.nilFunc], 1, 8⟩ : TI) := tz73
theorem ty74 : E1.ti 74 = some (⟨.func #[23, 23] #[4] false, [.nilFunc], 1, 8⟩ : TI) := tz74
theorem ty75 : E1.ti 75 = some (⟨.func #[28] #[4] false, [.nilFunc], 1, 8⟩ : TI) := tz75
theorem ty76 : E1.ti 76 = some (⟨.func #[3, 71] #[22] true, [.nilFunc], 1, 8⟩ : TI) := tz76
theorem ty77 : E1.ti 77 = some (⟨.func #[28] #[71] false, [.nilFunc], 1, 8⟩ : TI) := tz77
theorem ty78 : E1.ti 78 = some (⟨.func #[3, 71] #[22] false, [.nilFunc], 1, 8⟩ : TI) := tz78
theorem ty79 : E1.ti 79 = some (⟨.func #[3] #[22] false, [.nilFunc], 1, 8⟩ : TI) := tz79
theorem ty80 : E1.ti 80 = some (⟨.func #[22] #[3] false, [.nilFunc], 1, 8⟩ : TI) := tz80
theorem ty81 : E1.ti 81 = some (⟨.func #[22, 22] #[22] false, [.nilFunc], 1, 8⟩ : TI) := tz81
theorem ty82 : E1.ti 82 = some (⟨.func #[22, 3, 3] #[22] false, [.nilFunc], 1, 8⟩ : TI) := tz82
theorem ty83 : E1.ti 83 = some (⟨.func #[84, 3, 26] #[28, 60] false, [.nilFunc], 1, 8⟩ : TI) := tz83
theorem ty84 : E1.ti 84 = some (⟨.int .i64, [.int .i64 0], 1, 8⟩ : TI) := tz84
theorem ty85 : E1.ti 85 = some (⟨.int .u64, [.int .u64 0], 1, 8⟩ : TI) := tz85
theorem ty87 : E1.ti 87 = some (⟨.func #[28, 3] #[3, 4] false, [.nilFunc], 1, 8⟩ : TI) := tz87
theorem ty88 : E1.ti 88 = some (⟨.func #[26] #[26] false, [.nilFunc], 1, 8⟩ : TI) := tz88
theorem ty89 : E1.ti 89 = some (⟨.func #[26, 3, 26] #[26] true, [.nilFunc], 1, 8⟩ : TI) := tz89
theorem ty90 : E1.ti 90 = some (⟨.func #[26, 3, 3] #[26] false, [.nilFunc], 1, 8⟩ : TI) := tz90
theorem ty91 : E1.ti 91 = some (⟨.func #[26, 3] #[26] false, [.nilFunc], 1, 8⟩ : TI) := tz91
theorem ty92 : E1.ti 92 = some (⟨.slice 28, [.slice none 0 0], 1, 24⟩ : TI) := tz92
theorem ty93 : E1.ti 93 = some (⟨.func #[3] #[4] false, [.nilFunc], 1, 8⟩ : TI) := tz93
theorem ty94 : E1.ti 94 = some (⟨.func #[3] #[3] false, [.nilFunc], 1, 8⟩ : TI) := tz94
theorem ty95 : E1.ti 95 = some (⟨.func #[22, 3] #[3] false, [.nilFunc], 1, 8⟩ : TI) := tz95
theorem ty96 : E1.ti 96 = some (⟨.func #[3] #[85] false, [.nilFunc], 1, 8⟩ : TI) := tz96
theorem ty97 : E1.ti 97 = some (⟨.int .u64, [.int .u64 0], 1, 8⟩ : TI) := tz97
theorem ty98 : E1.ti 98 = some (⟨.func #[3, 2] #[4] false, [.nilFunc], 1, 8⟩ : TI) := tz98
theorem ty99 : E1.ti 99 = some (⟨.func #[22] #[22] false, [.nilFunc], 1, 8⟩ : TI) := tz99
theorem ty100 : E1.ti 100 = some (⟨.func #[85] #[3] false, [.nilFunc], 1, 8⟩ : TI) := tz100
theorem ty101 : E1.ti 101 = some (⟨.func #[22, 22, 3, 102] #[22] false, [.nilFunc], 1, 8⟩ : TI) := tz101
theorem ty102 : E1.ti 102 = some (⟨.func #[85, 85] #[85] false, [.nilFunc], 1, 8⟩ : TI) := tz102
theorem ty103 : E1.ti 103 = some (⟨.func #[93] #[] false, [.nilFunc], 1, 8⟩ : TI) := tz103
theorem ty104 : E1.ti 104 = some (⟨.func #[93] #[] false, [.nilFunc], 1, 8⟩ : TI) := tz104
theorem ty105 : E1.ti 105 = some (⟨.func #[22] #[104] false, [.nilFunc], 1, 8⟩ : TI) := tz105
theorem ty106 : E1.ti 106 = some (⟨.func #[84] #[4] false, [.nilFunc], 1, 8⟩ : TI) := tz106
theorem ty107 : E1.ti 107 = some (⟨.slice 109, [.slice none 0 0], 1, 24⟩ : TI) := tz107
theorem ty108 : E1.ti 108 = some (⟨.struct (flds Tryd.prog 108), [.int .i64 0, .int .i64 0, .int .i64 0], 3, 24⟩ : TI) := tz108
theorem ty109 : E1.ti 109 = some (⟨.struct (flds Tryd.prog 109), [.int .i64 0, .int .i64 0, .int .i64 0], 3, 24⟩ : TI) := tz109
theorem ty111 : E1.ti 111 = some (⟨.func #[84, 107] #[107, 60] false, [.nilFunc], 1, 8⟩ : TI) := tz111
theorem ty112 : E1.ti 112 = some (⟨.func #[3, 93] #[3] false, [.nilFunc], 1, 8⟩ : TI) := tz112
theorem ty113 : E1.ti 113 = some (⟨.func #[26, 3] #[] false, [.nilFunc], 1, 8⟩ : TI) := tz113
theorem ty114 : E1.ti 114 = some (⟨.func #[22, 3, 4] #[22] false, [.nilFunc], 1, 8⟩ : TI) := tz114
theorem ty115 : E1.ti 115 = some (⟨.slice 118, [.slice none 0 0], 1, 24⟩ : TI) := tz115
theorem ty116 : E1.ti 116 = some (⟨.func #[109, 109] #[4] false, [.nilFunc], 1, 8⟩ : TI) := tz116
theorem ty117 : E1.ti 117 = some (⟨.struct (flds Tryd.prog 117), [.int .i64 0, .int .u64 0], 2, 16⟩ : TI) := tz117
theorem ty118 : E1.ti 118 = some (⟨.struct (flds Tryd.prog 118), [.int .i64 0, .int .u64 0], 2, 16⟩ : TI) := tz118
theorem ty119 : E1.ti 119 = some (⟨.func #[2] #[118] false, [.nilFunc], 1, 8⟩ : TI) := tz119
theorem ty120 : E1.ti 120 = some (⟨.func #[84, 118, 118] #[118] false, [.nilFunc], 1, 8⟩ : TI) := tz120
theorem ty121 : E1.ti 121 = some (⟨.func #[118] #[2, 4] false, [.nilFunc], 1, 8⟩ : TI) := tz121
theorem ty122 : E1.ti 122 = some (⟨.array 64 5, [.int .u8 0, .int .u8 0, .int .u8 0, .int .u8 0, .int .u8 0, .int .u8 0, .int .u8 0, .int .u8 0, .int .u8 0, .int .u8 0, .int .u8 0, .int .u8 0, .int .u8 0, .int .u8 0, .int .u8 0, .int .u8 0, .int .u8 0, .int .u8 0, .int .u8 0, .int .u8 0, .int .u8 0, .int .u8 0, .int .u8 0, .int .u8 0, .int .u8 0, .int .u8 0, .int .u8 0, .int .u8 0, .int .u8 0, .int .u8 0, .int .u8 0, .int .u8 0, .int .u8 0, .int .u8 0, .int .u8 0, .int .u8 0, .int .u8 0, .int .u8 0, .int .u8 0, .int .u8 0, .int .u8 0, .int .u8 0, .int .u8 0, .int .u8 0, .int .u8 0, .int .u8 0, .int .u8 0, .int .u8 0, .int .u8 0, .int .u8 0, .int .u8 0, .int .u8 0, .int .u8 0, .int .u8 0, .int .u8 0, .int .u8 0, .int .u8 0, .int .u8 0, .int .u8 0, .int .u8 0, .int .u8 0, .int .u8 0, .int .u8 0, .int .u8 0], 64, 64⟩ : TI) := tz122
theorem ty123 : E1.ti 123 = some (⟨.func #[118, 118] #[3] false, [.nilFunc], 1, 8⟩ : TI) := tz123
theorem ty124 : E1.ti 124 = some (⟨.func #[4] #[118] false, [.nilFunc], 1, 8⟩ : TI) := tz124
theorem ty125 : E1.ti 125 = some (⟨.func #[118, 118] #[118] false, [.nilFunc], 1, 8⟩ : TI) := tz125
theorem ty126 : E1.ti 126 = some (⟨.func #[26] #[] false, [.nilFunc], 1, 8⟩ : TI) := tz126
theorem ty127 : E1.ti 127 = some (⟨.func #[] #[9] false, [.nilFunc], 1, 8⟩ : TI) := tz127
theorem ty130 : E1.ti 130 = some (⟨.array 0 16, [], 0, 0⟩ : TI) := tz130
theorem ty131 : E1.ti 131 = some (⟨.struct (flds Tryd.prog 131), [], 0, 0⟩ : TI) := tz131
theorem ty132 : E1.ti 132 = some (⟨.struct (flds Tryd.prog 132), [], 0, 0⟩ : TI) := tz132
theorem ty133 : E1.ti 133 = some (⟨.func #[] #[3] false, [.nilFunc], 1, 8⟩ : TI) := tz133
theorem ty134 : E1.ti 134 = some (⟨.int .u32, [.int .u32 0], 1, 4⟩ : TI) := tz134
theorem ty135 : E1.ti 135 = some (⟨.int .u8, [.int .u8 0], 1, 1⟩ : TI) := tz135
theorem ty136 : E1.ti 136 = some (⟨.int .u8, [.int .u8 0], 1, 1⟩ : TI) := tz136
theorem ty137 : E1.ti 137 = some (⟨.func #[143, 143] #[4] false, [.nilFunc], 1, 8⟩ : TI) := tz137
theorem ty138 : E1.ti 138 = some (⟨.pointer 5, [.pointer none], 1, 8⟩ : TI) := tz138
theorem ty139 : E1.ti 139 = some (⟨.int .i32, [.int .i32 0], 1, 4⟩ : TI) := tz139
theorem ty140 : E1.ti 140 = some (⟨.int .i32, [.int .i32 0], 1, 4⟩ : TI) := tz140
theorem ty141 : E1.ti 141 = some (⟨.struct (flds Tryd.prog 141), [.int .u64 0, .int .u64 0, .int .u32 0, .int .u8 0, .int .u8 0, .int .u8 0, .int .u8 0, .nilFunc, .pointer none, .int .i32 0, .int .i32 0], 11, 48⟩ : TI) := tz141
theorem ty142 : E1.ti 142 = some (⟨.struct (flds Tryd.prog 142), [.int .u64 0, .int .u64 0, .int .u32 0, .int .u8 0, .int .u8 0, .int .u8 0, .int .u8 0, .nilFunc, .pointer none, .int .i32 0, .int .i32 0], 11, 48⟩ : TI) := tz142
end Ev
end Go.Proofs.YtjomjfjbpcafhaaDoor
