import Derived.Test.YtjomjfjbpcafhaaDoorEvS5
import Derived.Test.YtjomjfjbpcafhaaDoorProg
import Derived.Test.YtjomjfjbpcafhaaDoorTz
namespace Go.Proofs.YtjomjfjbpcafhaaDoor
namespace Ev
open Go
set_option linter.unusedVariables false
set_option linter.unusedSimpArgs false
set_option maxRecDepth 100000
set_option maxHeartbeats 1000000
attribute [local irreducible] OpsL StL TnL WpL EndL
theorem tz1 : tiOf Tryd.prog 1 = some (⟨.func #[] #[] false, [.nilFunc], 1, 8⟩ : TI) := by kernel_rfl
theorem tz2 : tiOf Tryd.prog 2 = some (⟨.int .i64, [.int .i64 0], 1, 8⟩ : TI) := by kernel_rfl
theorem tz3 : tiOf Tryd.prog 3 = some (⟨.int .i64, [.int .i64 0], 1, 8⟩ : TI) := by kernel_rfl
theorem tz22 : tiOf Tryd.prog 22 = some (⟨.slice 85, [.slice none 0 0], 1, 24⟩ : TI) := by kernel_rfl
theorem tz23 : tiOf Tryd.prog 23 = some (⟨.slice 2, [.slice none 0 0], 1, 24⟩ : TI) := by kernel_rfl
theorem tz25 : tiOf Tryd.prog 25 = some (⟨.struct (flds Tryd.prog 25), [.int .i64 0, .slice none 0 0, .slice none 0 0], 3, 56⟩ : TI) := by kernel_rfl
theorem pl25 : places (tiOf Tryd.prog) (⟨.struct (flds Tryd.prog 25), [.int .i64 0, .slice none 0 0, .slice none 0 0], 3, 56⟩ : TI) = some fun i => ([(0, 1), (1, 1), (2, 1)] : List (Nat × Nat))[i]? := by kernel_rfl
theorem tz26 : tiOf Tryd.prog 26 = some (⟨.slice 39, [.slice none 0 0], 1, 24⟩ : TI) := by kernel_rfl
theorem tz28 : tiOf Tryd.prog 28 = some (⟨.struct (flds Tryd.prog 28), [.int .i64 0, .slice none 0 0], 2, 32⟩ : TI) := by kernel_rfl
theorem pl28 : places (tiOf Tryd.prog) (⟨.struct (flds Tryd.prog 28), [.int .i64 0, .slice none 0 0], 2, 32⟩ : TI) = some fun i => ([(0, 1), (1, 1)] : List (Nat × Nat))[i]? := by kernel_rfl
theorem tz39 : tiOf Tryd.prog 39 = some (⟨.struct (flds Tryd.prog 39), [.int .i64 0, .int .i64 0], 2, 16⟩ : TI) := by kernel_rfl
theorem pl39 : places (tiOf Tryd.prog) (⟨.struct (flds Tryd.prog 39), [.int .i64 0, .int .i64 0], 2, 16⟩ : TI) = some fun i => ([(0, 1), (1, 1)] : List (Nat × Nat))[i]? := by kernel_rfl
theorem tz71 : tiOf Tryd.prog 71 = some (⟨.slice 3, [.slice none 0 0], 1, 24⟩ : TI) := by kernel_rfl
theorem tz85 : tiOf Tryd.prog 85 = some (⟨.int .u64, [.int .u64 0], 1, 8⟩ : TI) := by kernel_rfl
theorem tz107 : tiOf Tryd.prog 107 = some (⟨.slice 109, [.slice none 0 0], 1, 24⟩ : TI) := by kernel_rfl
theorem tz109 : tiOf Tryd.prog 109 = some (⟨.struct (flds Tryd.prog 109), [.int .i64 0, .int .i64 0, .int .i64 0], 3, 24⟩ : TI) := by kernel_rfl
theorem pl109 : places (tiOf Tryd.prog) (⟨.struct (flds Tryd.prog 109), [.int .i64 0, .int .i64 0, .int .i64 0], 3, 24⟩ : TI) = some fun i => ([(0, 1), (1, 1), (2, 1)] : List (Nat × Nat))[i]? := by kernel_rfl
theorem tz115 : tiOf Tryd.prog 115 = some (⟨.slice 118, [.slice none 0 0], 1, 24⟩ : TI) := by kernel_rfl
theorem tz118 : tiOf Tryd.prog 118 = some (⟨.struct (flds Tryd.prog 118), [.int .i64 0, .int .u64 0], 2, 16⟩ : TI) := by kernel_rfl
theorem pl118 : places (tiOf Tryd.prog) (⟨.struct (flds Tryd.prog 118), [.int .i64 0, .int .u64 0], 2, 16⟩ : TI) = some fun i => ([(0, 1), (1, 1)] : List (Nat × Nat))[i]? := by kernel_rfl
theorem sz1 : sizeAt (tiOf Tryd.prog) 1 = some (1, false) := by kernel_rfl
theorem sz2 : sizeAt (tiOf Tryd.prog) 2 = some (1, false) := by kernel_rfl
theorem sz3 : sizeAt (tiOf Tryd.prog) 3 = some (1, false) := by kernel_rfl
theorem sz22 : sizeAt (tiOf Tryd.prog) 22 = some (1, false) := by kernel_rfl
theorem el22 : elemAt (tiOf Tryd.prog) 22 = some 1 := by kernel_rfl
theorem sz23 : sizeAt (tiOf Tryd.prog) 23 = some (1, false) := by kernel_rfl
theorem el23 : elemAt (tiOf Tryd.prog) 23 = some 1 := by kernel_rfl
theorem sz25 : sizeAt (tiOf Tryd.prog) 25 = some (3, true) := by kernel_rfl
theorem fa25_0 : fieldAt (tiOf Tryd.prog) 25 0 = some (0, 1, false) := by kernel_rfl
theorem fa25_1 : fieldAt (tiOf Tryd.prog) 25 1 = some (1, 1, false) := by kernel_rfl
theorem fa25_2 : fieldAt (tiOf Tryd.prog) 25 2 = some (2, 1, false) := by kernel_rfl
theorem sz26 : sizeAt (tiOf Tryd.prog) 26 = some (1, false) := by kernel_rfl
theorem el26 : elemAt (tiOf Tryd.prog) 26 = some 2 := by kernel_rfl
theorem sz28 : sizeAt (tiOf Tryd.prog) 28 = some (2, true) := by kernel_rfl
theorem fa28_0 : fieldAt (tiOf Tryd.prog) 28 0 = some (0, 1, false) := by kernel_rfl
theorem fa28_1 : fieldAt (tiOf Tryd.prog) 28 1 = some (1, 1, false) := by kernel_rfl
theorem sz39 : sizeAt (tiOf Tryd.prog) 39 = some (2, true) := by kernel_rfl
theorem fa39_0 : fieldAt (tiOf Tryd.prog) 39 0 = some (0, 1, false) := by kernel_rfl
theorem fa39_1 : fieldAt (tiOf Tryd.prog) 39 1 = some (1, 1, false) := by kernel_rfl
theorem el71 : elemAt (tiOf Tryd.prog) 71 = some 1 := by kernel_rfl
theorem sz85 : sizeAt (tiOf Tryd.prog) 85 = some (1, false) := by kernel_rfl
theorem el107 : elemAt (tiOf Tryd.prog) 107 = some 3 := by kernel_rfl
theorem sz109 : sizeAt (tiOf Tryd.prog) 109 = some (3, true) := by kernel_rfl
theorem fa109_0 : fieldAt (tiOf Tryd.prog) 109 0 = some (0, 1, false) := by kernel_rfl
theorem fa109_1 : fieldAt (tiOf Tryd.prog) 109 1 = some (1, 1, false) := by kernel_rfl
theorem fa109_2 : fieldAt (tiOf Tryd.prog) 109 2 = some (2, 1, false) := by kernel_rfl
theorem el115 : elemAt (tiOf Tryd.prog) 115 = some 2 := by kernel_rfl
theorem sz118 : sizeAt (tiOf Tryd.prog) 118 = some (2, true) := by kernel_rfl
theorem fa118_0 : fieldAt (tiOf Tryd.prog) 118 0 = some (0, 1, false) := by kernel_rfl
theorem fa118_1 : fieldAt (tiOf Tryd.prog) 118 1 = some (1, 1, false) := by kernel_rfl
theorem mixed0 : Tryd.prog.follows .mixedOrders = true := by kernel_rfl
theorem names0 : namesOk Tryd.prog = true := by kernel_rfl
def preAx : Ax := (addAx (fun _ => none) 102 tzF)
theorem preAx_ok : AxOk Tryd.prog preAx := (axOk_add (axOk_none _) tz_ok)
def inlF : List TD → Option (Kind × List TD) := fun _ => none
def inlAx : Ax := (addAx (addAx (addAx (addAx (addAx (addAx (addAx preAx 20 inlF) 21 inlF) 50 inlF) 62 inlF) 92 inlF) 94 inlF) 97 inlF)
theorem inlAx_ok : AxOk Tryd.prog inlAx := (axOk_add (axOk_add (axOk_add (axOk_add (axOk_add (axOk_add (axOk_add preAx_ok fun vs kind rs h => by simp [inlF] at h) fun vs kind rs h => by simp [inlF] at h) fun vs kind rs h => by simp [inlF] at h) fun vs kind rs h => by simp [inlF] at h) fun vs kind rs h => by simp [inlF] at h) fun vs kind rs h => by simp [inlF] at h) fun vs kind rs h => by simp [inlF] at h)
noncomputable def E0 : Env := envOf Tryd.prog inlAx
theorem E0_ok : E0.Ok := envOf_ok mixed0 names0 inlAx_ok
noncomputable def E00 : Env := envOf Tryd.prog preAx
theorem E00_ok : E00.Ok := envOf_ok mixed0 names0 preAx_ok
def z70 (n : Nat) : List (List T) := List.replicate n [iT .i64 0]
def hasQ (a b : Int) : T := .s true 1 [[iT .u64 a], [iT .u64 b]]
def dQ (b : Int) (l : List (List T)) : TD := .agg [iT .i64 70, hasQ 0 b, .s true 1 l]
def d70 : TD := dQ 2 (z70 65 ++ [iT .i64 9] :: z70 4)
def n70 : TD := dQ 0 (z70 70)
def v70 : TD := .agg [iT .i64 70, .s true 2 [[iT .i64 65, iT .i64 9]]]
def p10 : TD := .agg [iT .i64 10, .s true 1 [[iT .u64 32]], .s true 1 (z70 5 ++ [iT .i64 9] :: z70 4)]
end Ev
end Go.Proofs.YtjomjfjbpcafhaaDoor
