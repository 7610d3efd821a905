/- Texts of a claim, joined. -/
import Derived.Test.YtcnfdbkolbgbcaaZC10
import Derived.Test.YtcnfdbkolbgbcaaZC8
import Derived.Test.YtcnfdbkolbgbcaaZC9
import Derived.OpenShut
set_option linter.unusedVariables false
set_option linter.unusedSimpArgs false
section
namespace Go.Proofs.Ytcnfdbkolbgbcaa
namespace Ev
namespace K
open Go Go.RowKit
set_option linter.unusedVariables false
set_option linter.unusedSimpArgs false
set_option maxRecDepth 100000
set_option maxHeartbeats 1000000
noncomputable def preAx : Ax := (addAx (addAx (fun _ => none) 38 (handF Sm.Tp.ins .any Sm.Tp.outs Sm.Tp.fn)) 23 (handF Sm.Eg.ins .fresh Sm.Eg.outs Sm.Eg.fn))
theorem preAx_ok : AxOk Try.prog preAx := (axOk_add (axOk_add (axOk_none _) (hand_ax Sm.Tp.enters Sm.Tp.pure_ok)) (hand_ax Sm.Eg.enters Sm.Eg.pure_ok))
noncomputable def inlAx : Ax := (addAx (addAx (addAx (addAx (addAx (addAx (addAx (addAx (addAx (addAx (addAx (addAx (addAx (addAx (addAx (addAx (addAx (addAx (addAx (addAx (addAx (addAx (addAx (addAx (addAx (addAx (addAx (addAx (addAx (addAx (addAx (addAx (addAx (addAx (addAx (addAx (addAx (addAx (addAx (addAx preAx 58 inlF) 60 inlF) 61 inlF) 63 inlF) 64 inlF) 67 inlF) 70 inlF) 71 inlF) 72 inlF) 73 inlF) 75 inlF) 77 inlF) 81 inlF) 90 inlF) 94 inlF) 95 inlF) 101 inlF) 102 inlF) 103 inlF) 104 inlF) 105 inlF) 106 inlF) 107 inlF) 108 inlF) 111 inlF) 112 inlF) 113 inlF) 114 inlF) 115 inlF) 116 inlF) 117 inlF) 118 inlF) 119 inlF) 122 inlF) 123 inlF) 124 inlF) 125 inlF) 126 inlF) 127 inlF) 128 inlF)
theorem inlAx_ok : AxOk Try.prog inlAx := (axOk_add (axOk_add (axOk_add (axOk_add (axOk_add (axOk_add (axOk_add (axOk_add (axOk_add (axOk_add (axOk_add (axOk_add (axOk_add (axOk_add (axOk_add (axOk_add (axOk_add (axOk_add (axOk_add (axOk_add (axOk_add (axOk_add (axOk_add (axOk_add (axOk_add (axOk_add (axOk_add (axOk_add (axOk_add (axOk_add (axOk_add (axOk_add (axOk_add (axOk_add (axOk_add (axOk_add (axOk_add (axOk_add (axOk_add (axOk_add preAx_ok fun vs kind rs h => by simp [inlF] at h) fun vs kind rs h => by simp [inlF] at h) fun vs kind rs h => by simp [inlF] at h) fun vs kind rs h => by simp [inlF] at h) fun vs kind rs h => by simp [inlF] at h) fun vs kind rs h => by simp [inlF] at h) fun vs kind rs h => by simp [inlF] at h) fun vs kind rs h => by simp [inlF] at h) fun vs kind rs h => by simp [inlF] at h) fun vs kind rs h => by simp [inlF] at h) fun vs kind rs h => by simp [inlF] at h) fun vs kind rs h => by simp [inlF] at h) fun vs kind rs h => by simp [inlF] at h) fun vs kind rs h => by simp [inlF] at h) fun vs kind rs h => by simp [inlF] at h) fun vs kind rs h => by simp [inlF] at h) fun vs kind rs h => by simp [inlF] at h) fun vs kind rs h => by simp [inlF] at h) fun vs kind rs h => by simp [inlF] at h) fun vs kind rs h => by simp [inlF] at h) fun vs kind rs h => by simp [inlF] at h) fun vs kind rs h => by simp [inlF] at h) fun vs kind rs h => by simp [inlF] at h) fun vs kind rs h => by simp [inlF] at h) fun vs kind rs h => by simp [inlF] at h) fun vs kind rs h => by simp [inlF] at h) fun vs kind rs h => by simp [inlF] at h) fun vs kind rs h => by simp [inlF] at h) fun vs kind rs h => by simp [inlF] at h) fun vs kind rs h => by simp [inlF] at h) fun vs kind rs h => by simp [inlF] at h) fun vs kind rs h => by simp [inlF] at h) fun vs kind rs h => by simp [inlF] at h) fun vs kind rs h => by simp [inlF] at h) fun vs kind rs h => by simp [inlF] at h) fun vs kind rs h => by simp [inlF] at h) fun vs kind rs h => by simp [inlF] at h) fun vs kind rs h => by simp [inlF] at h) fun vs kind rs h => by simp [inlF] at h) fun vs kind rs h => by simp [inlF] at h)
noncomputable def E0 : Env := envOf Try.prog inlAx
theorem E0_ok : E0.Ok := envOf_ok mixed0 names0 inlAx_ok
def liveF : List TD → Option (Kind × List TD)
 | [] => some (.fresh, [.one (.v (.bool true))])
 | _ => none
theorem live_ax {k : FuncId} (h : (callers E0 300 60).1 k [] = some (.fresh, [.one (.v (.bool true))])) : ∀ vs kind rs, liveF vs = some (kind, rs) → PureOk Try.prog k vs kind rs ∧ Ev.Enters Try.prog k := fun vs kind rs hf => by
 unfold liveF at hf
 split at hf
 ·simp only [Option.some.injEq, Prod.mk.injEq] at hf
  obtain ⟨rfl, rfl⟩ := hf
  exact (callers_ok E0_ok 300 60).1 _ _ _ _ h
 ·simp at hf
theorem live14 : (callers E0 300 60).1 14 [] = some (.fresh, [.one (.v (.bool true))]) := by kernel_rfl
theorem live8 : (callers E0 300 60).1 8 [] = some (.fresh, [.one (.v (.bool true))]) := by kernel_rfl
noncomputable def E1 : Env := envOf Try.prog (addAx (addAx inlAx 14 liveF) 8 liveF)
theorem E1_ok : E1.Ok := envOf_ok mixed0 names0 (axOk_add (axOk_add inlAx_ok (live_ax live14)) (live_ax live8))
noncomputable def FL8 : vals [] → Option Bool := fun _ => some true
noncomputable def FL8_E : Entry := ⟨8, [], .data true [(false, .B)], FL8, 1⟩
theorem FL8_ok : EntryOk E1 FL8_E := fun m a out h => by
 obtain rfl := Option.some.inj h
 exact runsP_ax (F := liveF) rfl rfl
noncomputable def edges_Combine : vals Sm.Eg.ins → Option (vals Sm.Eg.outs) := Sm.Eg.fn
noncomputable def edges_Combine_E : Entry := ⟨23, Sm.Eg.ins, .data true Sm.Eg.outs, edges_Combine, 1⟩
theorem edges_Combine_ok : EntryOk E1 edges_Combine_E := hand_fresh rfl
theorem TT_ok : AllT E1 TT := ⟨tz1, ⟨tz2, ⟨tz3, ⟨tz4, ⟨tz5, ⟨tz6, ⟨tz7, ⟨tz8, ⟨tz12, ⟨tz15, ⟨tz16, ⟨tz17, ⟨tz18, ⟨tz19, ⟨tz21, ⟨tz22, ⟨tz23, ⟨tz24, ⟨tz25, ⟨tz26, ⟨tz27, ⟨tz28, ⟨tz29, ⟨tz30, ⟨tz31, ⟨tz32, ⟨tz33, ⟨tz34, ⟨tz35, ⟨tz36, ⟨tz37, ⟨tz38, ⟨tz39, ⟨tz40, ⟨tz42, ⟨tz43, ⟨tz44, ⟨tz45, ⟨tz46, ⟨tz48, ⟨tz49, ⟨tz50, ⟨tz51, ⟨tz53, ⟨tz54, ⟨tz55, ⟨tz56, ⟨tz57, ⟨tz58, ⟨tz59, ⟨tz60, ⟨tz61, ⟨tz63, ⟨tz64, ⟨tz65, ⟨tz66, ⟨tz67, ⟨tz68, ⟨tz69, ⟨tz70, ⟨tz72, ⟨tz74, ⟨tz75, ⟨tz76, ⟨tz78, ⟨tz79, ⟨tz80, ⟨tz82, ⟨tz83, ⟨tz84, ⟨tz85, ⟨tz86, ⟨tz87, ⟨tz88, ⟨tz89, ⟨tz90, ⟨tz91, ⟨tz92, ⟨tz93, ⟨tz94, ⟨tz95, ⟨tz96, ⟨tz97, ⟨tz98, ⟨tz99, ⟨tz100, ⟨tz101, ⟨tz102, ⟨tz103, ⟨tz104, ⟨tz105, ⟨tz106, ⟨tz107, ⟨tz108, ⟨tz109, ⟨tz110, ⟨tz111, ⟨tz112, ⟨tz113, ⟨tz114, ⟨tz115, ⟨tz116, ⟨tz118, ⟨tz119, ⟨tz120, ⟨tz121, ⟨tz122, ⟨tz123, ⟨tz124, ⟨tz125, ⟨tz126, ⟨tz127, ⟨tz128, ⟨tz129, ⟨tz130, ⟨tz131, ⟨tz132, ⟨tz133, ⟨tz134, ⟨tz135, ⟨tz136, ⟨tz137, ⟨tz138, ⟨tz140, ⟨tz141, ⟨tz142, ⟨tz145, ⟨tz146, ⟨tz147, ⟨tz148, ⟨tz149, ⟨tz150, ⟨tz151, ⟨tz152, ⟨tz153, ⟨tz154, ⟨tz155, ⟨tz156, trivial⟩⟩⟩⟩⟩⟩⟩⟩⟩⟩⟩⟩⟩⟩⟩⟩⟩⟩⟩⟩⟩⟩⟩⟩⟩⟩⟩⟩⟩⟩⟩⟩⟩⟩⟩⟩⟩⟩⟩⟩⟩⟩⟩⟩⟩⟩⟩⟩⟩⟩⟩⟩⟩⟩⟩⟩⟩⟩⟩⟩⟩⟩⟩⟩⟩⟩⟩⟩⟩⟩⟩⟩⟩⟩⟩⟩⟩⟩⟩⟩⟩⟩⟩⟩⟩⟩⟩⟩⟩⟩⟩⟩⟩⟩⟩⟩⟩⟩⟩⟩⟩⟩⟩⟩⟩⟩⟩⟩⟩⟩⟩⟩⟩⟩⟩⟩⟩⟩⟩⟩⟩⟩⟩⟩⟩⟩⟩⟩⟩⟩⟩⟩⟩⟩⟩⟩⟩⟩
theorem EQS_ok : AllQ E1.P EQS := ⟨eqOk3 kqeql30 kqneq30, ⟨eqOk2 kqeql80 kqneq80, trivial⟩⟩
theorem fn3 : E1.fn 3 = some fi3 := fn_of Try.func3 rfl
theorem fn6 : E1.fn 6 = some fi6 := fn_of Try.func6 rfl
theorem fn7 : E1.fn 7 = some fi7 := fn_of Try.func7 rfl
theorem fn9 : E1.fn 9 = some fi9 := fn_of Try.func9 rfl
theorem fn10 : E1.fn 10 = some fi10 := fn_of Try.func10 rfl
theorem fn34 : E1.fn 34 = some fi34 := fn_of Try.func34 rfl
theorem fn35 : E1.fn 35 = some fi35 := fn_of Try.func35 rfl
end K
end Ev
end Go.Proofs.Ytcnfdbkolbgbcaa
end
section
namespace Go.Proofs.Ytcnfdbkolbgbcaa
namespace Ev
namespace K
open Go Go.RowKit
set_option linter.unusedVariables false
set_option linter.unusedSimpArgs false
set_option maxRecDepth 100000
set_option maxHeartbeats 1000000
def law05_Few_A : AnnK := []
noncomputable def law05_Few_G : KG := ⟨TT, EQS, [], []⟩
noncomputable def law05_Few : vals [yD0] → Option (OutK.val (.data false [yD0])) := funK law05_Few_G law05_Few_A fi6 6 0 [yD0] (.data false [yD0])
noncomputable def law05_Few_E : Entry := ⟨6, [yD0], .data false [yD0], law05_Few, 1⟩
def edges_Canon_A : AnnK := []
noncomputable def edges_Canon_G : KG := ⟨TT, EQS, [edges_Combine_E], []⟩
noncomputable def edges_Canon : vals [yD0] → Option (OutK.val (.data true [yD0])) := funK edges_Canon_G edges_Canon_A fi7 7 0 [yD0] (.data true [yD0])
noncomputable def edges_Canon_E : Entry := ⟨7, [yD0], .data true [yD0], edges_Canon, 2⟩
def slices_Equal_api_Edge_api_Edge_A : AnnK := [(35, ⟨[⟨false, 4, 0, [0, 1, 12], ⟨[(13, false, [.d true (.I .i64)])], [], []⟩, [(.exit 0, ⟨[], [], []⟩), (.ret, ⟨[(4, false, [.d true .B])], [], []⟩)]⟩], []⟩)]
noncomputable def slices_Equal_api_Edge_api_Edge_G : KG := ⟨TT, EQS, [], []⟩
noncomputable def slices_Equal_api_Edge_api_Edge : vals [yD1, yD1] → Option (OutK.val (.data true [(false, .B)])) := funK slices_Equal_api_Edge_api_Edge_G slices_Equal_api_Edge_api_Edge_A fi35 35 0 [yD1, yD1] (.data true [(false, .B)])
noncomputable def slices_Equal_api_Edge_api_Edge_E : Entry := ⟨35, [yD1, yD1], .data true [(false, .B)], slices_Equal_api_Edge_api_Edge, 1⟩
def edges_Same_A : AnnK := []
noncomputable def edges_Same_G : KG := ⟨TT, EQS, [slices_Equal_api_Edge_api_Edge_E], []⟩
noncomputable def edges_Same : vals [yD0, yD0] → Option (OutK.val (.data true [(false, .B)])) := funK edges_Same_G edges_Same_A fi10 10 0 [yD0, yD0] (.data true [(false, .B)])
noncomputable def edges_Same_E : Entry := ⟨10, [yD0, yD0], .data true [(false, .B)], edges_Same, 2⟩
def ref05_below_A : AnnK := []
noncomputable def ref05_below_G : KG := ⟨TT, EQS, [], []⟩
noncomputable def ref05_below : vals [yD2, yD2] → Option (OutK.val (.data true [(false, .B)])) := funK ref05_below_G ref05_below_A fi34 34 0 [yD2, yD2] (.data true [(false, .B)])
noncomputable def ref05_below_E : Entry := ⟨34, [yD2, yD2], .data true [(false, .B)], ref05_below, 1⟩
def ref05_Rises_A : AnnK := [(9, ⟨[⟨false, 2, 0, [0], ⟨[(3, false, [.d true (.I .i64)])], [], []⟩, [(.exit 0, ⟨[], [], []⟩), (.ret, ⟨[(2, false, [.d true .B])], [], []⟩)]⟩], []⟩)]
noncomputable def ref05_Rises_G : KG := ⟨TT, EQS, [ref05_below_E], []⟩
noncomputable def ref05_Rises : vals [yD1] → Option (OutK.val (.data true [(false, .B)])) := funK ref05_Rises_G ref05_Rises_A fi9 9 0 [yD1] (.data true [(false, .B)])
noncomputable def ref05_Rises_E : Entry := ⟨9, [yD1], .data true [(false, .B)], ref05_Rises, 2⟩
def law05_EdgesCanon_A : AnnK := [(3, ⟨[⟨false, 13, 0, [5, 7], ⟨[(8, false, [.d true (.I .i64)])], [], []⟩, [(.exit 0, ⟨[], [], []⟩), (.ret, ⟨[(4, false, [.d true .B])], [], []⟩)]⟩, ⟨false, 17, 0, [5, 7, 8], ⟨[(9, false, [.d true .B]), (10, false, [.d true (.I .i64)])], [], []⟩, [(.exit 2, ⟨[(9, false, [.d true .B])], [], []⟩)]⟩, ⟨true, 2, 5, [2], ⟨[(1, false, [.d false (.S (.C (.I .i64) (.C (.I .i64) (.I .i64))))])], [], []⟩, [(.normal, ⟨[(1, false, [.d false (.S (.C (.I .i64) (.C (.I .i64) (.I .i64))))])], [], []⟩)]⟩], [(4, ⟨[[], [], [], [], [], [], [], [], [], []], [(false, []), (false, []), (false, []), (false, []), (false, []), (false, []), (true, []), (true, []), (false, [6]), (false, [7])]⟩)]⟩)]
noncomputable def law05_EdgesCanon_G : KG := ⟨TT, EQS, [law05_Few_E, edges_Canon_E, FL8_E, ref05_Rises_E, edges_Same_E], []⟩
noncomputable def law05_EdgesCanon : vals [yD0, yD1] → Option (OutK.val (.data true [(false, .B)])) := funK law05_EdgesCanon_G law05_EdgesCanon_A fi3 3 0 [yD0, yD1] (.data true [(false, .B)])
noncomputable def law05_EdgesCanon_E : Entry := ⟨3, [yD0, yD1], .data true [(false, .B)], law05_EdgesCanon, 3⟩
end K
end Ev
end Go.Proofs.Ytcnfdbkolbgbcaa
end
section
namespace Go.Proofs.Ytcnfdbkolbgbcaa
namespace Ev
namespace K
open Go Go.RowKit
set_option linter.unusedVariables false
set_option linter.unusedSimpArgs false
set_option maxRecDepth 100000
set_option maxHeartbeats 1000000
theorem law05_Few_Gok : GOk law05_Few_G E1 0 := gok E1_ok TT_ok EQS_ok trivial trivial
theorem law05_Few_ok : EntryOk E1 law05_Few_E := mkE_ok law05_Few_Gok (by kernel_rfl) fn6 (by kernel_rfl) rfl
theorem edges_Canon_Gok : GOk edges_Canon_G E1 1 := gok E1_ok TT_ok EQS_ok ⟨⟨by decide, edges_Combine_ok⟩, trivial⟩ trivial
theorem edges_Canon_ok : EntryOk E1 edges_Canon_E := mkE_ok edges_Canon_Gok (by kernel_rfl) fn7 (by kernel_rfl) rfl
theorem slices_Equal_api_Edge_api_Edge_Gok : GOk slices_Equal_api_Edge_api_Edge_G E1 0 := gok E1_ok TT_ok EQS_ok trivial trivial
theorem slices_Equal_api_Edge_api_Edge_ok : EntryOk E1 slices_Equal_api_Edge_api_Edge_E := mkE_ok slices_Equal_api_Edge_api_Edge_Gok (by kernel_rfl) fn35 (by kernel_rfl) rfl
theorem edges_Same_Gok : GOk edges_Same_G E1 1 := gok E1_ok TT_ok EQS_ok ⟨⟨by decide, slices_Equal_api_Edge_api_Edge_ok⟩, trivial⟩ trivial
theorem edges_Same_ok : EntryOk E1 edges_Same_E := mkE_ok edges_Same_Gok (by kernel_rfl) fn10 (by kernel_rfl) rfl
theorem ref05_below_Gok : GOk ref05_below_G E1 0 := gok E1_ok TT_ok EQS_ok trivial trivial
theorem ref05_below_ok : EntryOk E1 ref05_below_E := mkE_ok ref05_below_Gok (by kernel_rfl) fn34 (by kernel_rfl) rfl
theorem ref05_Rises_Gok : GOk ref05_Rises_G E1 1 := gok E1_ok TT_ok EQS_ok ⟨⟨by decide, ref05_below_ok⟩, trivial⟩ trivial
theorem ref05_Rises_ok : EntryOk E1 ref05_Rises_E := mkE_ok ref05_Rises_Gok (by kernel_rfl) fn9 (by kernel_rfl) rfl
theorem law05_EdgesCanon_Gok : GOk law05_EdgesCanon_G E1 2 := gok E1_ok TT_ok EQS_ok ⟨⟨by decide, law05_Few_ok⟩, ⟨⟨by decide, edges_Canon_ok⟩, ⟨⟨by decide, FL8_ok⟩, ⟨⟨by decide, ref05_Rises_ok⟩, ⟨⟨by decide, edges_Same_ok⟩, trivial⟩⟩⟩⟩⟩ trivial
theorem law05_EdgesCanon_ok : EntryOk E1 law05_EdgesCanon_E := mkE_ok law05_EdgesCanon_Gok (by kernel_rfl) fn3 (by kernel_rfl) rfl
end K
end Ev
end Go.Proofs.Ytcnfdbkolbgbcaa
end
section
namespace Go.Proofs.Ytcnfdbkolbgbcaa
namespace Ev
namespace K
open Go Go.RowKit
set_option linter.unusedVariables false
set_option linter.unusedSimpArgs false
def W : (e : Ty) → e.val → Prop
 | .I k, x => inK k x
 | .B, _ => True
 | .S e, x => SlW e.size (fun y => W e y) x
 | .U, _ => True
 | .C a b, x => W a x.1 ∧ W b x.2
def Op (P : Program) (t : TypeId) (e : Ty) : Prop := ∀ ts, Typ P t ts → ∃ x : e.val, ts = e.row x ∧ W e x
def Ops (P : Program) (tl : List TypeId) (e : Ty) : Prop := ∀ tss : List (List T), tss.length = tl.length → (∀ (i : Nat) t l, tl[i]? = some t → tss[i]? = some l → Typ P t l) → ∃ x : e.val, tss.flatten = e.row x ∧ W e x
section
variable {P : Program} {t : TypeId} {tl : List TypeId} {e a b : Ty}
theorem op_int {k : IntKind} (h : P.underlying t = some (.int k)) : Op P t (.I k) := fun ts ht => typ_int h ht
theorem op_slice {t' : TypeId} (h : P.underlying t = some (.slice t')) (hc : P.cellsOf t' = e.size) (ho : Op P t' e) : Op P t (.S e) := fun ts ht => typ_slice (r := e.row) (Q := fun y => W e y) h hc ho ht
theorem ops_one (h : Op P t e) : Ops P [t] e := fun tss hl ht => by
 obtain ⟨l, rfl⟩ := List.length_eq_one_iff.1 hl
 obtain ⟨x, h1, h2⟩ := h l (ht 0 t l rfl rfl)
 exact ⟨x, by simp [h1], h2⟩
theorem ops_cons (h : Op P t a) (h' : Ops P tl b) : Ops P (t :: tl) (.C a b) := fun tss hl ht => by
 match tss, hl with
 | l :: tss, hl =>
  obtain ⟨x, h1, h2⟩ := h l (ht 0 t l rfl rfl)
  obtain ⟨y, h3, h4⟩ := h' tss (by simpa using hl) fun i t' l' a b => ht (i + 1) t' l' a b
  exact ⟨(x, y), by rw [List.flatten_cons, h1, h3]; rfl, h2, h4⟩
theorem op_struct {fs : Array Field} (h : P.underlying t = some (.struct fs)) (hf : fs.toList.map (·.type) = tl) (ho : Ops P tl e) : Op P t e := fun ts ht => by
 obtain ⟨tss, rfl, h1, h2⟩ := typ_struct h ht
 subst hf
 refine ho tss (by simpa using h1) fun i t' l hi hl => ?_
 rw [List.getElem?_map, Option.map_eq_some_iff] at hi
 obtain ⟨f, hf, rfl⟩ := hi
 exact h2 i f l hf hl
theorem open_one {ts : List TypeId} {tds : List TD} {d : TypeDesc} (hu : P.underlying t = some d) (hd : isAggD d = false) (ho : Op P t e) (h : TypDs P (t :: ts) tds) : ∃ (x : e.val) (r : List TD), tds = tdOf (false, e) x :: r ∧ W e x ∧ TypDs P ts r := by
 obtain ⟨y, r, rfl, h1, h2⟩ := typd_one hu hd h
 obtain ⟨x, h3, h4⟩ := ho _ h1
 refine ⟨x, r, ?_, h4, h2⟩
 show TD.one y :: r = (match e.row x with | [y] => TD.one y | ys => TD.agg ys) :: r
 rw [← h3]
theorem open_agg {ts : List TypeId} {tds : List TD} {d : TypeDesc} (hu : P.underlying t = some d) (hd : isAggD d = true) (ho : Op P t e) (h : TypDs P (t :: ts) tds) : ∃ (x : e.val) (r : List TD), tds = tdOf (true, e) x :: r ∧ W e x ∧ TypDs P ts r := by
 obtain ⟨y, r, rfl, h1, h2⟩ := typd_agg hu hd h
 obtain ⟨x, h3, h4⟩ := ho _ h1
 exact ⟨x, r, by rw [h3]; rfl, h4, h2⟩
end
theorem true_of {E : Env} {en : Entry} (ok : EntryOk E en) {a : vals en.ins} {tds : List TD} (ht : tds = tdsOf en.ins a) (ho : en.out = .data true [(false, .B)]) (h : en.f a = some (cast (by rw [ho]) true)) : ∃ m n kind, (callers E m n).1 en.k tds = some (kind, [.one (.v (.bool true))]) := by
 have h1 := ok 0 a _ h
 subst ht
 obtain ⟨k, ins, out, f, d⟩ := en
 dsimp only at ho
 subst ho
 exact law_of h1
end K
end Ev
end Go.Proofs.Ytcnfdbkolbgbcaa
end
section
namespace Go.Proofs.Ytcnfdbkolbgbcaa
namespace Ev
open Go
set_option linter.unusedVariables false
set_option linter.unusedSimpArgs false
def okS {α : Type} (w : Nat) (s : Sl α) : Prop := s.l = [] ∨ s.sz = w
theorem SlW.ok {α : Type} {w : Nat} {Q : α → Prop} {s : Sl α} (h : SlW w Q s) : okS w s := .inr h.1
theorem ok_mo {α : Type} {w : Nat} (l : List α) : okS w (mo w l) := by cases l with | nil => exact .inl rfl | cons x l => exact .inr rfl
theorem atL_some' {α : Type} {l : List α} {j : Nat} {x : α} (h : l[j]? = some x) : atL l (j : Int) = some x := by
 have hj := (List.getElem?_eq_some_iff.1 h)
 rw [atL_get hj.1, hj.2]
theorem atS_some' {α : Type} {w : Nat} {s : Sl α} (hs : okS w s) {j : Nat} {x : α} (h : s.l[j]? = some x) : atS w s (j : Int) = some x := by
 have hj := (List.getElem?_eq_some_iff.1 h)
 rw [at_get hs hj.1, hj.2]
theorem loop_seq {A R : Type} {b : A → Option (A ⊕ R)} (n : Nat) (st : Nat → A) {r : R} (hs : ∀ j, j < n → b (st j) = some (.inl (st (j + 1)))) (he : b (st n) = some (.inr r)) : loopO b (st 0) = some r := by
 obtain ⟨q, h1, h2⟩ := loop_up (b := b) n (fun j a => a = st j) (fun q => q = r) (fun j a hj ha => .inl ⟨st (j + 1), by rw [ha]; exact hs j hj, rfl⟩) (fun a ha => ⟨r, by rw [ha]; exact he, rfl⟩) 0 (Nat.zero_le _) (st 0) rfl
 rw [h1, h2]
theorem loop_stop {A R : Type} {b : A → Option (A ⊕ R)} (n : Nat) (st : Nat → A) {a : A} (ha : a = st 0) {r : R} (hs : ∀ j, j < n → b (st j) = some (.inl (st (j + 1)))) (he : b (st n) = some (.inr r)) : loopO b a = some r := by rw [ha]; exact loop_seq n st hs he
theorem same_loop {α : Type} [DecidableEq α] {x y : List α} (hl : x.length = y.length) {b : Int → Option (Int ⊕ PUnit ⊕ Bool ⊕ Empty)} (h1 : ∀ j : Nat, (h : j < x.length) → b j = some (if x[j] = y[j] then .inl ((j + 1 : Nat) : Int) else .inr (.inr (.inl false)))) (h2 : ∀ j : Nat, x.length ≤ j → b j = some (.inr (.inl ()))) :
  loopO b 0 = some (if x = y then .inl () else .inr (.inl false)) := by
 obtain ⟨q, q1, q2⟩ := loop_up (b := b) x.length (fun j a => a = (j : Int) ∧ x.take j = y.take j) (fun q => q = if x = y then .inl () else .inr (.inl false))
  (by
   rintro j _ hj ⟨rfl, ht⟩
   rw [h1 j hj]
   by_cases e : x[j] = y[j]
   ·rw [if_pos e]
    refine .inl ⟨_, rfl, rfl, ?_⟩
    rw [List.take_succ_eq_append_getElem hj, List.take_succ_eq_append_getElem (by omega), ht, e]
   ·rw [if_neg e]
    refine .inr ⟨_, rfl, ?_⟩
    rw [if_neg (fun h => e (by simp [h]))])
  (by
   rintro _ ⟨rfl, ht⟩
   refine ⟨_, h2 _ (Nat.le_refl _), ?_⟩
   rw [List.take_of_length_le (Nat.le_refl _), List.take_of_length_le (by omega)] at ht
   rw [if_pos ht]) 0 (Nat.zero_le _) 0 ⟨rfl, by simp⟩
 rw [q1, q2]
theorem all_range {n : Nat} {p : Nat → Bool} : (List.range n).all p = true ↔ ∀ i, i < n → p i = true := by
 rw [List.all_eq_true]
 exact ⟨fun h i hi => h i (List.mem_range.2 hi), fun h i hi => h i (List.mem_range.1 hi)⟩
def sizeF (n : Int) : Bool := decide (0 ≤ n) && decide (n ≤ 4096)
theorem sizeF_iff {n : Int} : sizeF n = true ↔ 0 ≤ n ∧ n ≤ 4096 := by unfold sizeF; simp
end Ev
end Go.Proofs.Ytcnfdbkolbgbcaa
end
section
namespace Go.Proofs.Ytcnfdbkolbgbcaa
namespace Ev
open Go Go.RowKit
noncomputable def edges_Combine (x : Int) (y : Sl (Int × Int × Int)) : Option ((Sl (Int × Int × Int)) × Int) := K.edges_Combine (x, y)
noncomputable def FL8  : Option (Bool) := K.FL8 ()
noncomputable def law05_Few (x : Int × (Sl (Int × Int × Int))) : Option (Int × (Sl (Int × Int × Int))) := K.law05_Few x
noncomputable def edges_Canon (x : Int × (Sl (Int × Int × Int))) : Option (Int × (Sl (Int × Int × Int))) := K.edges_Canon x
noncomputable def slices_Equal_api_Edge_api_Edge (x : Sl (Int × Int × Int)) (y : Sl (Int × Int × Int)) : Option (Bool) := K.slices_Equal_api_Edge_api_Edge (x, y)
noncomputable def edges_Same (x : Int × (Sl (Int × Int × Int))) (y : Int × (Sl (Int × Int × Int))) : Option (Bool) := K.edges_Same (x, y)
noncomputable def ref05_below (x : Int × Int × Int) (y : Int × Int × Int) : Option (Bool) := K.ref05_below (x, y)
noncomputable def ref05_Rises (x : Sl (Int × Int × Int)) : Option (Bool) := K.ref05_Rises x
noncomputable def law05_EdgesCanon (x : Int × (Sl (Int × Int × Int))) (y : Sl (Int × Int × Int)) : Option (Bool) := K.law05_EdgesCanon (x, y)
end Ev
end Go.Proofs.Ytcnfdbkolbgbcaa
end
section
namespace Go.Proofs.Ytcnfdbkolbgbcaa
namespace Ev
open Go Go.RowKit
set_option linter.unusedVariables false
set_option maxRecDepth 100000
set_option maxHeartbeats 1000000
abbrev yC := Int × Int × Sl Int × Sl Int × Sl Int × Sl Int
abbrev yM := Int × Int × Sl Int × Sl Int × Sl Int
abbrev yT := Int × Int × Int
theorem law05_Few_eq (x : Int × Sl yT) : law05_Few x = if (↑x.snd.l.length : Int) > 60 then (cutS 3 x.snd 0 60).bind fun (s' : Sl yT) => some (x.fst, s')
else some x := by kernel_rfl
theorem edges_Canon_eq (x : Int × Sl yT) : edges_Canon x = (edges_Combine 1 x.snd).bind fun (out : Sl yT × Int) => some (x.fst, out.fst) := by kernel_rfl
noncomputable def slices_Equal_api_Edge_api_Edge_b1 (x : Sl yT) (y : Sl yT) : Int → Option (Int ⊕ PUnit ⊕ Bool ⊕ Empty) := fun (x_1 : Int) => if x_1 < (↑x.l.length : Int) then (atS 3 x x_1).bind fun (y_1 : Int × Int × Int) => (atS 3 y x_1).bind fun (y : Int × Int × Int) => if ¬(y_1.fst = y.fst ∧ y_1.snd.fst = y.snd.fst ∧ y_1.snd.snd = y.snd.snd) then some (Sum.inr (Sum.inr (Sum.inl false))) else some (Sum.inl (IntKind.i64.wrap (x_1 + 1))) else some (Sum.inr (Sum.inl ()))
theorem slices_Equal_api_Edge_api_Edge_eq (x : Sl yT) (y : Sl yT) : slices_Equal_api_Edge_api_Edge x y = if (↑x.l.length : Int) ≠ (↑y.l.length : Int) then some false
else (loopO (slices_Equal_api_Edge_api_Edge_b1 x y) 0).bind fun (y : PUnit ⊕ Bool ⊕ Empty) => Sum.elim (fun (val : PUnit) => some true) (fun (val : Bool ⊕ Empty) => Sum.elim (fun (val : Bool) => some val) (fun (val : Empty) => nE val) val) y := by kernel_rfl
theorem edges_Same_eq (x : Int × Sl yT) (y : Int × Sl yT) : edges_Same x y = if x.fst = y.fst then (slices_Equal_api_Edge_api_Edge x.snd y.snd).bind fun (out : Bool) => some (decide (out = true))
else some false := by kernel_rfl
theorem ref05_below_eq (x : Int × Int × Int) (y : Int × Int × Int) : ref05_below x y = if x.fst < y.fst then some true
else if x.fst = y.fst then some (decide (x.snd.fst < y.snd.fst)) else some false := by kernel_rfl
noncomputable def ref05_Rises_b1 (x : Sl yT) : Int → Option (Int ⊕ PUnit ⊕ Bool ⊕ Empty) := fun (x_1 : Int) => if x_1 < (↑x.l.length : Int) then (atS 3 x (IntKind.i64.wrap (x_1 - 1))).bind fun (y : Int × Int × Int) => (atS 3 x x_1).bind fun (y_1 : Int × Int × Int) => (ref05_below y y_1).bind fun (out : Bool) => if ¬out = true then some (Sum.inr (Sum.inr (Sum.inl false))) else some (Sum.inl (IntKind.i64.wrap (x_1 + 1))) else some (Sum.inr (Sum.inl ()))
theorem ref05_Rises_eq (x : Sl yT) : ref05_Rises x = (loopO (ref05_Rises_b1 x) 1).bind fun (y : PUnit ⊕ Bool ⊕ Empty) => Sum.elim (fun (val : PUnit) => some true) (fun (val : Bool ⊕ Empty) => Sum.elim (fun (val : Bool) => some val) (fun (val : Empty) => nE val) val) y := by kernel_rfl
noncomputable def law05_EdgesCanon_b1 (lm : List yT) (out : Int × Sl yT) (x : Int) : Bool × Int → Option (Bool × Int ⊕ Bool ⊕ Empty) := fun (x_1 : Bool × Int) => if x_1.snd < (↑out.snd.l.length : Int) then if x_1.fst = true then some (Sum.inl (true, IntKind.i64.wrap (x_1.snd + 1))) else (atS 3 out.snd x_1.snd).bind fun (y : Int × Int × Int) => (atL lm x).bind fun (x_2 : Int × Int × Int) => (atL lm x).bind fun (y_1 : Int × Int × Int) => if y.fst = y_1.fst then (atS 3 out.snd x_1.snd).bind fun (y : Int × Int × Int) => (atL lm x).bind fun (x_3 : Int × Int × Int) => (atL lm x).bind fun (y_2 : Int × Int × Int) => if y.snd.fst = y_2.snd.fst then (atS 3 out.snd x_1.snd).bind fun (y : Int × Int × Int) => (atL lm x).bind fun (x_4 : Int × Int × Int) => (atL lm x).bind fun (y_3 : Int × Int × Int) => some (Sum.inl (decide (y.snd.snd ≤ y_3.snd.snd), IntKind.i64.wrap (x_1.snd + 1))) else some (Sum.inl (false, IntKind.i64.wrap (x_1.snd + 1))) else some (Sum.inl (false, IntKind.i64.wrap (x_1.snd + 1))) else some (Sum.inr (Sum.inl x_1.fst))
noncomputable def law05_EdgesCanon_b2 (lm : List yT) (out : Int × Sl yT) : Int → Option (Int ⊕ PUnit ⊕ Bool ⊕ Empty) := fun (x : Int) => if x < (↑lm.length : Int) then (loopO (law05_EdgesCanon_b1 lm out x) (false, 0)).bind fun (y : Bool ⊕ Empty) => Sum.elim (fun (val : Bool) => if ¬val = true then some (Sum.inr (Sum.inr (Sum.inl false))) else some (Sum.inl (IntKind.i64.wrap (x + 1)))) (fun (val : Empty) => nE val) y else some (Sum.inr (Sum.inl ()))
theorem law05_EdgesCanon_eq (x : Int × Sl yT) (y : Sl yT) : law05_EdgesCanon x y = (law05_Few x).bind fun (out : Int × Sl yT) => (if (↑y.l.length : Int) > 30 then (cutS 3 y 0 30).bind fun (s' : Sl yT) => some (Sum.inl s') else some (Sum.inl y)).bind fun (y : Sl yT ⊕ Empty) => Sum.elim (fun (val : Sl yT) => (app [] out.snd.l).bind fun (lm : List yT) => (app lm val.l).bind fun (lm : List yT) => (app [] val.l).bind fun (lm_1 : List yT) => (app lm_1 out.snd.l).bind fun (lm_2 : List yT) => (edges_Canon (out.fst, mo 3 lm)).bind fun (out_1 : Int × Sl yT) => FL8.bind fun (out_2 : Bool) => if ¬out_2 = true then some false else (ref05_Rises out_1.snd).bind fun (out_3 : Bool) => if ¬out_3 = true then some false else (edges_Canon (out.fst, mo 3 lm_2)).bind fun (out : Int × Sl yT) => (edges_Same out_1 out).bind fun (out : Bool) => if ¬out = true then some false else (edges_Canon out_1).bind fun (out : Int × Sl yT) => (edges_Same out out_1).bind fun (out : Bool) => if ¬out = true then some false else (loopO (law05_EdgesCanon_b2 lm out_1) 0).bind fun (y : PUnit ⊕ Bool ⊕ Empty) => Sum.elim (fun (val : PUnit) => some true) (fun (val : Bool ⊕ Empty) => Sum.elim (fun (val : Bool) => some val) (fun (val : Empty) => nE val) val) y) (fun (val : Empty) => nE val) y := by kernel_rfl
end Ev
end Go.Proofs.Ytcnfdbkolbgbcaa
end
section
namespace Go.Proofs.Ytcnfdbkolbgbcaa
namespace Ev
open Go
set_option linter.unusedVariables false
set_option linter.unusedSimpArgs false
abbrev Mx := Int × Int × Sl Int × Sl Int × Sl Int
abbrev E3 := Int × Int × Int
def ascI : Int → Int → List Int → Bool
 | _, _, [] => true
 | a, n, x :: l => decide (a < x) && decide (x < n) && ascI x n l
theorem ascI_cons (a n x : Int) (l : List Int) : ascI a n (x :: l) = (decide (a < x) && decide (x < n) && ascI x n l) := rfl
theorem ascI_iff' {n : Int} : ∀ {l : List Int} {a : Int}, ascI a n l = true ↔ l.Pairwise (· < ·) ∧ ∀ x ∈ l, a < x ∧ x < n
 | [], a => by simp [ascI]
 | x :: l, a => by
  rw [ascI_cons, Bool.and_eq_true, Bool.and_eq_true, decide_eq_true_eq, decide_eq_true_eq, ascI_iff', List.pairwise_cons]
  constructor
  ·rintro ⟨⟨h1, h2⟩, h3, h4⟩
   refine ⟨⟨fun y hy => (h4 y hy).1, h3⟩, fun y hy => ?_⟩
   rcases List.mem_cons.1 hy with rfl | hy
   ·exact ⟨h1, h2⟩
   ·have := h4 y hy; omega
  ·rintro ⟨⟨h1, h2⟩, h3⟩
   exact ⟨h3 x (by simp), h2, fun y hy => ⟨h1 y hy, (h3 y (by simp [hy])).2⟩⟩
def cutL {α : Type} (l : List α) (f t : Int) : List α := (l.drop f.toNat).take (t.toNat - f.toNat)
def rowOk (c : Int) (st co : List Int) (i : Nat) : Bool := decide (0 ≤ st.getD i 0) && (decide (st.getD i 0 ≤ st.getD (i + 1) 0) && (decide (st.getD (i + 1) 0 ≤ co.length) && ascI (-1) c (cutL co (st.getD i 0) (st.getD (i + 1) 0))))
def rightM (m : Mx) : Bool := sizeF m.1 && (sizeF m.2.1 && (decide ((m.2.2.1.l.length : Int) = m.1 + 1) && (decide (m.2.2.1.l.getD 0 0 = 0) && (decide (m.2.2.2.1.l.length = m.2.2.2.2.l.length) && (decide (m.2.2.2.1.l.length ≤ 65536) && (decide (m.2.2.1.l.getD m.1.toNat 0 = m.2.2.2.1.l.length) && (List.range m.1.toNat).all (rowOk m.2.1 m.2.2.1.l m.2.2.2.1.l)))))))
structure OkM (m : Mx) : Prop where
 st : okS 1 m.2.2.1
 co : okS 1 m.2.2.2.1
 va : okS 1 m.2.2.2.2
 v64 : ∀ x ∈ m.2.2.2.2.l, i64r x
 sl : m.2.2.1.l.length ≤ 9223372036854775807
 cl : m.2.2.2.1.l.length ≤ 9223372036854775807
 vl : m.2.2.2.2.l.length ≤ 9223372036854775807
end Ev
end Go.Proofs.Ytcnfdbkolbgbcaa
end
section
namespace Go.Proofs.Ytcnfdbkolbgbcaa
namespace Ev
open Go Sm
set_option linter.unusedVariables false
set_option linter.unusedSimpArgs false
def bel (a b : E3) : Bool := klt (key a) (key b)
theorem bel_iff {a b : E3} : bel a b = true ↔ a.1 < b.1 ∨ a.1 = b.1 ∧ a.2.1 < b.2.1 := by unfold bel klt key; simp
abbrev rises (l : List E3) : Prop := l.Pairwise fun a b => bel a b = true
def tabN (n : Nat) (f : Nat → Int) : List Int := (List.range (n + 1)).map f
theorem tabN_len (n : Nat) (f : Nat → Int) : (tabN n f).length = n + 1 := by unfold tabN; simp
theorem tabN_get {n k : Nat} (f : Nat → Int) (h : k ≤ n) : (tabN n f)[k]? = some (f k) := by
 unfold tabN
 rw [List.getElem?_map, List.getElem?_range (by omega)]; rfl
theorem tabN_getD {n k : Nat} (f : Nat → Int) (h : k ≤ n) : (tabN n f).getD k 0 = f k := by rw [List.getD_eq_getElem?_getD, tabN_get f h]; rfl
def cntR (l : List E3) (k : Nat) : Nat := l.countP fun x => decide (x.1 < (k : Int))
theorem cntR_le (l : List E3) (k : Nat) : cntR l k ≤ l.length := List.countP_le_length
def matV (n c : Int) (l : List E3) : Mx := (n, c, ⟨true, 1, tabN n.toNat fun k => ((cntR l k : Nat) : Int)⟩, mo 1 (l.map (·.2.1)), mo 1 (l.map (·.2.2)))
theorem split_lt {l : List E3} (h : l.Pairwise fun a b => a.1 ≤ b.1) (k : Int) : (l.filter fun x => decide (x.1 < k)) ++ (l.filter fun x => !decide (x.1 < k)) = l := by
 induction l with
 | nil => rfl
 | cons x l ih =>
  rw [List.pairwise_cons] at h
  have ih := ih h.2
  by_cases c : x.1 < k
  ·rw [List.filter_cons_of_pos (by simp [c]), List.filter_cons_of_neg (by simp [c]), List.cons_append, ih]
  ·have e1 : (l.filter fun x => decide (x.1 < k)) = [] := by
    rw [List.filter_eq_nil_iff]
    intro y hy
    have := h.1 y hy
    simp; omega
   rw [e1, List.nil_append] at ih
   rw [List.filter_cons_of_neg (by simp [c]), List.filter_cons_of_pos (by simp [c]), e1, List.nil_append, ih]
theorem take_lt {l : List E3} (h : l.Pairwise fun a b => a.1 ≤ b.1) (k : Nat) : l.take (cntR l k) = (l.filter fun x => decide (x.1 < (k : Int))) ∧ l.drop (cntR l k) = l.filter fun x => !decide (x.1 < (k : Int)) := by
 have e := split_lt h (k : Int)
 have hl : cntR l k = (l.filter fun x => decide (x.1 < (k : Int))).length := by unfold cntR; rw [List.countP_eq_length_filter]
 have key : ∀ A B : List E3, A ++ B = l → l.take A.length = A ∧ l.drop A.length = B := by
  rintro A B rfl
  exact ⟨List.take_left, List.drop_left⟩
 rw [hl]
 exact key _ _ e
def rowE (l : List E3) (i : Nat) : List E3 := (l.filter fun x => !decide (x.1 < (i : Int))).filter fun x => decide (x.1 < ((i + 1 : Nat) : Int))
theorem rowE_mem {l : List E3} {i : Nat} {x : E3} : x ∈ rowE l i ↔ x ∈ l ∧ x.1 = (i : Int) := by
 unfold rowE
 simp only [List.mem_filter, Bool.not_eq_true', decide_eq_false_iff_not, decide_eq_true_eq]
 constructor
 ·rintro ⟨⟨h1, h2⟩, h3⟩; exact ⟨h1, by omega⟩
 ·rintro ⟨h1, h2⟩; exact ⟨⟨h1, by omega⟩, by omega⟩
theorem rises_le {l : List E3} (h : rises l) : l.Pairwise fun a b => a.1 ≤ b.1 := h.imp fun hb => by rw [bel_iff] at hb; omega
theorem row_cut {l : List E3} (h : rises l) (i : Nat) : cntR l i ≤ cntR l (i + 1) ∧ (l.drop (cntR l i)).take (cntR l (i + 1) - cntR l i) = rowE l i := by
 have hle := rises_le h
 have e1 := (take_lt hle i).2
 have hmono : cntR l i ≤ cntR l (i + 1) := by
  unfold cntR
  refine List.countP_mono_left fun x _ hx => ?_
  simp only [decide_eq_true_eq] at hx ⊢; omega
 refine ⟨hmono, ?_⟩
 rw [e1]
 have hg : (l.filter fun x => !decide (x.1 < (i : Int))).Pairwise fun a b => a.1 ≤ b.1 := hle.sublist List.filter_sublist
 have e2 := (take_lt hg (i + 1)).1
 have hc : cntR (l.filter fun x => !decide (x.1 < (i : Int))) (i + 1) = cntR l (i + 1) - cntR l i := by
  have h1 : cntR l (i + 1) = cntR (l.filter fun x => decide (x.1 < (i : Int))) (i + 1) + cntR (l.filter fun x => !decide (x.1 < (i : Int))) (i + 1) := by
   conv => lhs; rw [← split_lt hle (i : Int)]
   unfold cntR
   rw [List.countP_append]
  have h2 : cntR (l.filter fun x => decide (x.1 < (i : Int))) (i + 1) = cntR l i := by
   unfold cntR
   rw [List.countP_filter]
   refine List.countP_congr fun x _ => ?_
   simp only [Bool.and_eq_true, decide_eq_true_eq]
   omega
  omega
 rw [← hc, e2]; rfl
theorem row_sorted {l : List E3} (h : rises l) (i : Nat) : ((rowE l i).map (·.2.1)).Pairwise (· < ·) := by
 rw [List.pairwise_map]
 have hs : rises (rowE l i) := h.sublist (List.filter_sublist.trans List.filter_sublist)
 refine hs.imp_of_mem fun {a b} ha hb hab => ?_
 have h1 := (rowE_mem.1 ha).2
 have h2 := (rowE_mem.1 hb).2
 rw [bel_iff] at hab; omega
theorem cutL_map {α β : Type} (f : α → β) (l : List α) (a b : Int) : cutL (l.map f) a b = (cutL l a b).map f := by unfold cutL; rw [← List.map_drop, ← List.map_take]
theorem matV_right {n c : Int} (hn : 0 ≤ n ∧ n ≤ 4096) (hc : 0 ≤ c ∧ c ≤ 4096) {l : List E3} (hl : l.length ≤ 65536) (h : rises l) (hp : ∀ x ∈ l, (0 ≤ x.1 ∧ x.1 < n) ∧ 0 ≤ x.2.1 ∧ x.2.1 < c) : rightM (matV n c l) = true := by
 have h0 : cntR l 0 = 0 := by
  unfold cntR
  rw [List.countP_eq_zero]
  intro x hx
  have := (hp x hx).1.1
  simp; omega
 have hN : cntR l n.toNat = l.length := by
  unfold cntR
  rw [List.countP_eq_length]
  intro x hx
  have := (hp x hx).1.2
  simp; omega
 unfold rightM matV
 simp only [mo_l, Bool.and_eq_true, decide_eq_true_eq, sizeF_iff, List.length_map, tabN_len]
 refine ⟨hn, hc, by omega, ?_, trivial, hl, ?_, ?_⟩
 ·rw [tabN_getD _ (Nat.zero_le _), h0]; rfl
 ·rw [tabN_getD _ (Nat.le_refl _), hN]
 ·refine all_range.2 fun i hi => ?_
  unfold rowOk
  rw [tabN_getD _ (by omega), tabN_getD _ (by omega)]
  obtain ⟨r1, r2⟩ := row_cut h i
  have hle := cntR_le l (i + 1)
  simp only [Bool.and_eq_true, decide_eq_true_eq, List.length_map]
  refine ⟨by omega, by omega, by omega, ?_⟩
  have e : cutL (l.map (·.2.1)) ((cntR l i : Nat) : Int) ((cntR l (i + 1) : Nat) : Int) = (rowE l i).map (·.2.1) := by
   rw [cutL_map]
   unfold cutL
   rw [Int.toNat_natCast, Int.toNat_natCast, r2]
  rw [e]
  exact ascI_iff'.2 ⟨row_sorted h i, fun p hp' => by
   obtain ⟨x, hx, rfl⟩ := List.mem_map.1 hp'
   have := (hp x (rowE_mem.1 hx).1).2
   omega⟩
end Ev
end Go.Proofs.Ytcnfdbkolbgbcaa
end
section
namespace Go.Proofs.Ytcnfdbkolbgbcaa
namespace Ev
open Go Sm
set_option linter.unusedVariables false
set_option linter.unusedSimpArgs false
abbrev RG (r : Int) : Rg := ⟨ofW, ringAdd r, narrowW⟩
end Ev
end Go.Proofs.Ytcnfdbkolbgbcaa
end
section
namespace Go.Proofs.Ytcnfdbkolbgbcaa
namespace Ev
open Go Sm
set_option linter.unusedVariables false
set_option linter.unusedSimpArgs false
theorem ref05_below_w (a b : E3) : ref05_below a b = some (bel a b) := by
 rw [ref05_below_eq]
 have hb : bel a b = (decide (a.1 < b.1) || (decide (a.1 = b.1) && decide (a.2.1 < b.2.1))) := by
  unfold bel klt key; rw [Bool.decide_or, Bool.decide_and]
 rw [hb]
 by_cases h1 : a.1 < b.1
 ·rw [if_pos h1, decide_eq_true h1]; rfl
 ·rw [if_neg h1, decide_eq_false h1]
  by_cases h2 : a.1 = b.1
  ·rw [if_pos h2, decide_eq_true h2]; rfl
  ·rw [if_neg h2, decide_eq_false h2]; rfl
def insE {α : Type} (l : List α) (k : Nat) (y : α) : List α := l.take k ++ y :: l.drop k
theorem insE_len {α : Type} {l : List α} {k : Nat} (y : α) : (insE l k y).length = l.length + 1 := by unfold insE; simp; omega
def pos (S : List (Ky × V)) (e : E3) : Nat := (S.takeWhile fun p => klt p.1 (key e)).length
theorem ins_eq (R : Rg) (e : E3) : ∀ (S : List (Ky × V)), ins R S e = if h : pos S e < S.length then (if klt (key e) (S[pos S e]'h).1 = true then insE S (pos S e) (key e, R.o e.2.2) else S.set (pos S e) ((S[pos S e]'h).1, R.ad (S[pos S e]'h).2 (R.o e.2.2))) else S ++ [(key e, R.o e.2.2)]
 | [] => by simp [ins, pos]
 | p :: S => by
  have ih := ins_eq R e S
  unfold ins
  by_cases hp : klt p.1 (key e) = true
  ·have hpos : pos (p :: S) e = pos S e + 1 := by unfold pos; simp [List.takeWhile_cons, hp]
   rw [if_pos hp, ih]
   simp only [hpos, List.length_cons, Nat.add_lt_add_iff_right, List.getElem_cons_succ]
   split
   ·split
    ·unfold insE; simp
    ·simp
   ·simp
  ·have hpos : pos (p :: S) e = 0 := by unfold pos; simp [List.takeWhile_cons, hp]
   rw [if_neg hp]
   simp only [hpos, List.length_cons, Nat.zero_lt_succ, dif_pos, List.getElem_cons_zero]
   split
   ·unfold insE; simp
   ·simp
theorem can_len (R : Rg) (l : List E3) : (canS R l).length ≤ l.length := by
 have key : ∀ (S : List (Ky × V)) e, (ins R S e).length ≤ S.length + 1 := by
  intro S e
  rw [ins_eq]
  split
  ·split
   ·rw [insE_len]; omega
   ·simp
  ·simp
 have : ∀ (l : List E3) (S : List (Ky × V)), (l.foldl (ins R) S).length ≤ S.length + l.length := by
  intro l
  induction l with
  | nil => intro S; simp
  | cons e l ih => intro S; have h1 := ih (ins R S e); have h2 := key S e; simp only [List.foldl_cons, List.length_cons]; omega
 simpa [canS] using this l []
end Ev
end Go.Proofs.Ytcnfdbkolbgbcaa
end
section
namespace Go.Proofs.Ytcnfdbkolbgbcaa
namespace Ev
open Go Sm
set_option linter.unusedVariables false
set_option linter.unusedSimpArgs false
theorem risL_iff : ∀ {l : List E3}, risL l = true ↔ rises l
 | [] => by simp [risL, rises]
 | [a] => by simp [risL, rises]
 | a :: b :: r => by
  rw [risL_cons2, Bool.and_eq_true, risL_iff]
  constructor
  ·rintro ⟨h1, h2⟩
   refine List.pairwise_cons.2 ⟨fun y hy => ?_, h2⟩
   rcases List.mem_cons.1 hy with rfl | hy
   ·exact h1
   ·exact klt_trans h1 ((List.pairwise_cons.1 h2).1 y hy)
  ·intro h
   obtain ⟨h1, h2⟩ := List.pairwise_cons.1 h
   exact ⟨h1 b (by simp), h2⟩
theorem narrow_of {n : Int} (h : i64r n) : narrowW (ofW n) = (n, true) := by
 unfold narrowW
 have e : IntKind.i64.wrap (ofW n).2 = n := by
  unfold ofW
  simp only
  rw [wrap_u64, IntKind.wrap_i64]; unfold i64r at h; omega
 rw [e, if_pos rfl]
def w64 (l : List E3) : Prop := ∀ x ∈ l, i64r x.1 ∧ i64r x.2.1 ∧ i64r x.2.2
theorem sum_rising {r : Int} {l : List E3} (h : rises l) (hw : ∀ x ∈ l, i64r x.2.2) : sumR (RG r) l = (l, 0) := by
 have hc := canS_rising (RG r) l h
 have ha : (canS (RG r) l).all (fun p => ((RG r).na p.2).2) = true := by
  rw [hc, List.all_eq_true]
  intro p hp
  obtain ⟨e, he, rfl⟩ := List.mem_map.1 hp
  show (narrowW (ofW e.2.2)).2 = true
  rw [narrow_of (hw e he)]
 unfold sumR
 rw [if_pos ha, hc, List.map_map]
 have : l.map (toE (RG r) ∘ fun e => (key e, (RG r).o e.2.2)) = l := by
  refine (List.map_congr_left (g := id) fun e he => ?_).trans (List.map_id l)
  show (e.1, e.2.1, (narrowW (ofW e.2.2)).1) = e
  rw [narrow_of (hw e he)]
 rw [this]
theorem sum_spec {r : Int} {l : List E3} : rises (sumR (RG r) l).1 ∧ (sumR (RG r) l).1.length ≤ l.length ∧ (∀ x ∈ (sumR (RG r) l).1, i64r x.2.2 ∧ ∃ y ∈ l, y.1 = x.1 ∧ y.2.1 = x.2.1) ∧ ((sumR (RG r) l).2 = 0 ∨ sumR (RG r) l = ([], 12)) := by
 unfold sumR
 split
 ·refine ⟨?_, by rw [List.length_map]; exact can_len _ _, fun x hx => ?_, .inl rfl⟩
  ·show ((canS (RG r) l).map (toE (RG r))).Pairwise _
   rw [List.pairwise_map]
   exact (rep_can (RG r) l).1
  ·obtain ⟨p, hp, rfl⟩ := List.mem_map.1 hx
   refine ⟨?_, ?_⟩
   ·show i64r (narrowW p.2).1
    unfold narrowW
    split
    ·exact i64_wrap _
    ·unfold i64r; omega
   ·obtain ⟨e, he, hk⟩ := fm_some (((rep_can (RG r) l).2 p.1 p.2).1 hp)
    have h1 := congrArg Prod.fst hk
    have h2 := congrArg Prod.snd hk
    exact ⟨e, he, h1, h2⟩
 ·exact ⟨List.Pairwise.nil, Nat.zero_le _, by simp, .inr rfl⟩
theorem inB_of {n : Int} (h : i64r n) : Tp.inB n = true ∧ Eg.inB n = true := by
 unfold i64r at h
 simp [Tp.inB, Eg.inB, h.1, h.2]
theorem okB_of {x : Sl E3} (hs : okS 3 x) (hn : x.nn = false → x.l = []) (hl : x.l.length ≤ 65536) (hw : w64 x.l) : Tp.okB x = true ∧ Eg.okB x = true := by
 have h1 : x.l.length ≤ 90000 := by omega
 have h2 : x.sz = 3 ∨ x.l = [] := hs.symm
 have h3 : x.nn = true ∨ x.l = [] := by
  cases h : x.nn with
  | true => exact .inl rfl
  | false => exact .inr (hn h)
 constructor
 ·simp only [Tp.okB, Bool.and_eq_true, Bool.or_eq_true, decide_eq_true_eq, List.isEmpty_iff, List.all_eq_true]
  exact ⟨⟨⟨h1, fun e he => ⟨(inB_of (hw e he).1).1, (inB_of (hw e he).2.1).1, (inB_of (hw e he).2.2).1⟩⟩, h2⟩, h3⟩
 ·simp only [Eg.okB, Bool.and_eq_true, Bool.or_eq_true, decide_eq_true_eq, List.isEmpty_iff, List.all_eq_true]
  exact ⟨⟨⟨h1, fun e he => ⟨(inB_of (hw e he).1).2, (inB_of (hw e he).2.1).2, (inB_of (hw e he).2.2).2⟩⟩, h2⟩, h3⟩
theorem edges_Combine_w {r : Int} {x : Sl E3} (hr : isRing r = true) (hs : okS 3 x) (hn : x.nn = false → x.l = []) (hl : x.l.length ≤ 65536) (hw : w64 x.l) : ∃ s : Sl E3, edges_Combine r x = some (s, (sumR (RG r) x.l).2) ∧ okS 3 s ∧ (s.nn = false → s.l = []) ∧ s.l = (sumR (RG r) x.l).1 := by
 have h1 : edges_Combine r x = Eg.fn (r, x) := rfl
 rw [h1]
 unfold Eg.fn
 rw [if_pos hr, if_pos (okB_of hs hn hl hw).2]
 by_cases hr : risL x.l = true
 ·simp only [if_pos hr]
  rw [sum_rising (risL_iff.1 hr) fun e he => (hw e he).2.2]
  exact ⟨_, rfl, .inr rfl, hn, rfl⟩
 ·simp only [if_neg hr]
  have hR : Eg.RG r = RG r := rfl
  rw [hR]
  by_cases h0 : (sumR (RG r) x.l).2 = 0
  ·rw [if_pos h0, h0]
   exact ⟨_, rfl, .inr rfl, (by simp), rfl⟩
  ·rw [if_neg h0]
   have he := (sum_spec (r := r) (l := x.l)).2.2.2.resolve_left h0
   rw [he]
   exact ⟨_, rfl, .inl rfl, fun _ => rfl, rfl⟩
end Ev
end Go.Proofs.Ytcnfdbkolbgbcaa
end
section
namespace Go.Proofs.Ytcnfdbkolbgbcaa
namespace Ev
open Go Sm
set_option linter.unusedVariables false
set_option linter.unusedSimpArgs false
theorem lessW_iff {a b : Int × Int} : lessW a b = true ↔ a.1 < b.1 ∨ a.1 = b.1 ∧ a.2 < b.2 := by unfold lessW; simp
theorem lessW_not {a b : Int × Int} : lessW a b = false ↔ ¬ (a.1 < b.1 ∨ a.1 = b.1 ∧ a.2 < b.2) := by rw [← lessW_iff]; cases lessW a b <;> simp
theorem lessr_le (a b : Int × Int) : lessW a (lessrW a b) = false ∧ lessW b (lessrW a b) = false := by
 unfold lessrW
 by_cases h : lessW b a = true
 ·rw [if_pos h]
  rw [lessW_iff] at h
  rw [lessW_not, lessW_not]
  omega
 ·rw [if_neg h]
  have h' : lessW b a = false := by cases hb : lessW b a <;> simp_all
  refine ⟨?_, h'⟩
  rw [lessW_not]
  omega
theorem le_trans' {a b c : Int × Int} (h1 : lessW b a = false) (h2 : lessW c b = false) : lessW c a = false := by
 rw [lessW_not] at *
 omega
theorem le_antisymm' {a b : Int × Int} (h1 : lessW a b = false) (h2 : lessW b a = false) : a = b := by
 rw [lessW_not] at *
 exact Prod.ext (by omega) (by omega)
theorem fold_least {l : List E3} : ∀ {f : Ky → Option V} {k : Ky} {z : V}, l.foldl (Sm.upd (RG 1)) f k = some z → ((∃ e ∈ l, key e = k ∧ z = ofW e.2.2) ∨ f k = some z) ∧ (∀ e ∈ l, key e = k → lessW (ofW e.2.2) z = false) ∧ ∀ s, f k = some s → lessW s z = false := by
 induction l with
 | nil =>
  intro f k z h
  refine ⟨.inr h, by simp, fun s hs => ?_⟩
  have h : f k = some z := h
  rw [hs] at h
  cases h
  rw [lessW_not]
  omega
 | cons e l ih =>
  intro f k z h
  obtain ⟨h1, h2, h3⟩ := ih (f := Sm.upd (RG 1) f e) h
  by_cases hk : k = key e
  ·-- what stands there behind this one
   have ht : ∃ t, Sm.upd (RG 1) f e k = some t ∧ (t = ofW e.2.2 ∨ f k = some t) ∧ lessW (ofW e.2.2) t = false ∧ ∀ s, f k = some s → lessW s t = false := by
    unfold Sm.upd
    rw [if_pos hk]
    cases hf : f (key e) with
    | none => exact ⟨ofW e.2.2, rfl, .inl rfl, by rw [lessW_not]; omega, fun s hs => by rw [hk, hf] at hs; cases hs⟩
    | some s =>
     have hl := lessr_le s (ofW e.2.2)
     refine ⟨lessrW s (ofW e.2.2), rfl, ?_, hl.2, fun s' hs => ?_⟩
     ·unfold lessrW
      split
      ·exact .inl rfl
      ·rw [hk]; exact .inr hf
     ·rw [hk, hf] at hs
      cases hs
      exact hl.1
   obtain ⟨t, t1, t2, t3, t4⟩ := ht
   have t5 := h3 t t1
   refine ⟨?_, fun e' he hk' => ?_, fun s hs => le_trans' t5 (t4 s hs)⟩
   ·rcases h1 with ⟨e', a1, a2⟩ | h1
    ·exact .inl ⟨e', List.mem_cons_of_mem _ a1, a2⟩
    ·rw [t1] at h1
     cases h1
     rcases t2 with rfl | t2
     ·exact .inl ⟨e, by simp, hk.symm, rfl⟩
     ·exact .inr t2
   ·rcases List.mem_cons.1 he with rfl | he
    ·exact le_trans' t5 t3
    ·exact h2 e' he hk'
  ·have hu : Sm.upd (RG 1) f e k = f k := by unfold Sm.upd; rw [if_neg hk]
   rw [hu] at h1 h3
   refine ⟨?_, fun e' he hk' => ?_, h3⟩
   ·rcases h1 with ⟨e', a1, a2⟩ | h1
    ·exact .inl ⟨e', List.mem_cons_of_mem _ a1, a2⟩
    ·exact .inr h1
   ·rcases List.mem_cons.1 he with rfl | he
    ·exact absurd hk'.symm hk
    ·exact h2 e' he hk'
theorem fold_there {l : List E3} : ∀ {f : Ky → Option V} {k : Ky}, ((∃ e ∈ l, key e = k) ∨ ∃ s, f k = some s) → ∃ z, l.foldl (Sm.upd (RG 1)) f k = some z := by
 induction l with
 | nil =>
  intro f k h
  rcases h with ⟨e, he, _⟩ | h
  ·simp at he
  ·exact h
 | cons e l ih =>
  intro f k h
  refine ih (f := Sm.upd (RG 1) f e) ?_
  by_cases hk : k = key e
  ·right
   unfold Sm.upd
   rw [if_pos hk]
   exact ⟨_, rfl⟩
  ·rcases h with ⟨e', he, hk'⟩ | ⟨s, hs⟩
   ·rcases List.mem_cons.1 he with rfl | he
    ·exact absurd hk'.symm hk
    ·exact .inl ⟨e', he, hk'⟩
   ·right
    unfold Sm.upd
    rw [if_neg hk]
    exact ⟨s, hs⟩
theorem fm_eq {l l' : List E3} (h : ∀ x, x ∈ l ↔ x ∈ l') : fm (RG 1) l = fm (RG 1) l' := by
 have half : ∀ {l l' : List E3}, (∀ x, x ∈ l ↔ x ∈ l') → ∀ k z, fm (RG 1) l k = some z → fm (RG 1) l' k = some z := fun {l l'} h k z hz => by
  obtain ⟨h1, h2, _⟩ := fold_least hz
  rcases h1 with ⟨e, a1, a2, a3⟩ | h1
  ·obtain ⟨z', hz'⟩ := fold_there (l := l') (f := fun _ => none) (k := k) (.inl ⟨e, (h e).1 a1, a2⟩)
   obtain ⟨b1, b2, _⟩ := fold_least hz'
   rcases b1 with ⟨e', c1, c2, c3⟩ | b1
   ·have d1 := h2 e' ((h e').2 c1) c2
    have d2 := b2 e ((h e).1 a1) a2
    rw [← c3] at d1
    rw [← a3] at d2
    rw [le_antisymm' d2 d1]
    exact hz'
   ·cases b1
  ·cases h1
 funext k
 cases hk : fm (RG 1) l k with
 | some z => exact (half h k z hk).symm
 | none =>
  cases hk' : fm (RG 1) l' k with
  | none => rfl
  | some z =>
   have := half (fun x => (h x).symm) k z hk'
   rw [hk] at this
   cases this
theorem sum_order {l l' : List E3} (h : ∀ x, x ∈ l ↔ x ∈ l') : sumR (RG 1) l = sumR (RG 1) l' := by
 have hc : canS (RG 1) l = canS (RG 1) l' := (rep_can (RG 1) l).uniq (by rw [fm_eq h]; exact rep_can (RG 1) l')
 unfold sumR
 rw [hc]
theorem sum_has {l : List E3} (hw : w64 l) {e : E3} (he : e ∈ l) : ∃ x ∈ (sumR (RG 1) l).1, x.1 = e.1 ∧ x.2.1 = e.2.1 ∧ x.2.2 ≤ e.2.2 := by
 have hall : (canS (RG 1) l).all (fun p => ((RG 1).na p.2).2) = true := by
  rw [List.all_eq_true]
  intro p hp
  obtain ⟨h1, _, _⟩ := fold_least (((rep_can (RG 1) l).2 p.1 p.2).1 hp)
  rcases h1 with ⟨e', a1, a2, a3⟩ | h1
  ·rw [a3]
   show (narrowW (ofW e'.2.2)).2 = true
   rw [narrow_of (hw e' a1).2.2]
  ·cases h1
 obtain ⟨z, hz⟩ := fold_there (l := l) (f := fun _ => none) (k := key e) (.inl ⟨e, he, rfl⟩)
 obtain ⟨h1, h2, _⟩ := fold_least hz
 rcases h1 with ⟨e', a1, a2, a3⟩ | h1
 ·have hm : (key e, z) ∈ canS (RG 1) l := ((rep_can (RG 1) l).2 _ _).2 hz
  refine ⟨toE (RG 1) (key e, z), ?_, rfl, rfl, ?_⟩
  ·unfold sumR
   rw [if_pos hall]
   exact List.mem_map_of_mem hm
  ·have hv := (hw e' a1).2.2
   have h3 := h2 e he rfl
   rw [a3] at h3 ⊢
   show (narrowW (ofW e'.2.2)).1 ≤ _
   rw [narrow_of hv]
   have hv2 := (hw e he).2.2
   unfold i64r at hv hv2
   rw [lessW_not] at h3
   unfold ofW at h3
   simp only [wrap_u64] at h3
   show e'.2.2 ≤ e.2.2
   split at h3 <;> split at h3 <;> omega
 ·cases h1
end Ev
end Go.Proofs.Ytcnfdbkolbgbcaa
end
section
namespace Go.Proofs.Ytcnfdbkolbgbcaa
namespace Ev
open Go Sm
set_option linter.unusedVariables false
set_option linter.unusedSimpArgs false
theorem same_slice {α : Type} [DecidableEq α] {x y : Sl α} (hl : x.l.length ≤ 9223372036854775806) {w : Nat} (hx : okS w x) (hy : okS w y) {b : Int → Option (Int ⊕ PUnit ⊕ Bool ⊕ Empty)}
  (hb : ∀ a, b a = if a < (x.l.length : Int) then (atS w x a).bind fun u => (atS w y a).bind fun v => if u ≠ v then some (.inr (.inr (.inl false))) else some (.inl (IntKind.i64.wrap (a + 1))) else some (.inr (.inl ()))) :
  (if (x.l.length : Int) ≠ (y.l.length : Int) then some false else (loopO b 0).bind fun (y : PUnit ⊕ Bool ⊕ Empty) => Sum.elim (fun _ => some true) (fun v => Sum.elim (fun v => some v) (fun v => nE v) v) y) = some (decide (x.l = y.l)) := by
 by_cases h : x.l.length = y.l.length
 ·rw [if_neg (by omega)]
  rw [same_loop h (b := b) (fun j hj => by
   rw [hb, if_pos (by omega), atS_some' hx (List.getElem?_eq_getElem hj), atS_some' hy (List.getElem?_eq_getElem (by omega))]
   simp only [Option.bind_some]
   by_cases he : x.l[j] = y.l[j]
   ·rw [if_neg (by simp [he]), if_pos he, w_succ hj (by omega)]
   ·rw [if_pos he, if_neg he]) (fun j hj => by rw [hb, if_neg (by omega)])]
  by_cases he : x.l = y.l
  ·simp [he]
  ·simp [he]
 ·rw [if_pos (by omega), decide_eq_false]
  exact fun he => h (by rw [he])
theorem w64_of {x : Sl E3} (h : K.W (.S (.C (.I .i64) (.C (.I .i64) (.I .i64)))) x) : okS 3 x ∧ (x.nn = false → x.l = []) ∧ w64 x.l := ⟨.inr h.1, h.2.1, fun y hy => ⟨i64r_of (h.2.2.2 y hy).1, i64r_of (h.2.2.2 y hy).2.1, i64r_of (h.2.2.2 y hy).2.2⟩⟩
end Ev
end Go.Proofs.Ytcnfdbkolbgbcaa
end
section
namespace Go.Proofs.Ytcnfdbkolbgbcaa
namespace Ev
open Go Sm
set_option linter.unusedVariables false
set_option linter.unusedSimpArgs false
structure Is (m : Mx) (n c : Int) (l : List E3) : Prop where
 hn : 0 ≤ n ∧ n ≤ 4096
 hc : 0 ≤ c ∧ c ≤ 4096
 len : l.length ≤ 65536
 r : rises l
 p : ∀ x ∈ l, (0 ≤ x.1 ∧ x.1 < n) ∧ 0 ≤ x.2.1 ∧ x.2.1 < c
 v : ∀ x ∈ l, i64r x.2.2
 e1 : m.1 = n
 e2 : m.2.1 = c
 e3 : m.2.2.1.l = tabN n.toNat fun k => ((cntR l k : Nat) : Int)
 e4 : m.2.2.2.1.l = l.map (·.2.1)
 e5 : m.2.2.2.2.l = l.map (·.2.2)
 o3 : okS 1 m.2.2.1
 o4 : okS 1 m.2.2.2.1
 o5 : okS 1 m.2.2.2.2
section
variable {m : Mx} {n c : Int} {l : List E3}
theorem Is.ok (h : Is m n c l) : OkM m := by
 refine ⟨h.o3, h.o4, h.o5, fun y hy => ?_, ?_, ?_, ?_⟩
 ·rw [h.e5] at hy
  obtain ⟨x, hx, rfl⟩ := List.mem_map.1 hy
  exact h.v x hx
 ·rw [h.e3, tabN_len]; have := h.hn; omega
 ·rw [h.e4, List.length_map]; have := h.len; omega
 ·rw [h.e5, List.length_map]; have := h.len; omega
theorem Is.right (h : Is m n c l) : rightM m = true := by
 have := matV_right h.hn h.hc h.len h.r h.p
 unfold rightM at this ⊢
 simp only [Bool.and_eq_true, decide_eq_true_eq] at this ⊢
 rw [h.e1, h.e2, h.e3, h.e4, h.e5]
 simp only [matV, mo_l] at this
 exact this
end
end Ev
end Go.Proofs.Ytcnfdbkolbgbcaa
end
section
namespace Go.Proofs.Ytcnfdbkolbgbcaa
namespace Ev
open Go Sm
set_option linter.unusedVariables false
set_option linter.unusedSimpArgs false
end Ev
end Go.Proofs.Ytcnfdbkolbgbcaa
end
section
namespace Go.Proofs.Ytcnfdbkolbgbcaa
namespace Ev
open Go Sm
set_option linter.unusedVariables false
set_option linter.unusedSimpArgs false
section
variable {m : Mx} {n c : Int} {l : List E3}
end
end Ev
end Go.Proofs.Ytcnfdbkolbgbcaa
end
section
namespace Go.Proofs.Ytcnfdbkolbgbcaa
namespace Ev
open Go Sm
set_option linter.unusedVariables false
set_option linter.unusedSimpArgs false
section
variable {m : Mx} {n c : Int} {l : List E3}
end
end Ev
end Go.Proofs.Ytcnfdbkolbgbcaa
end
section
namespace Go.Proofs.Ytcnfdbkolbgbcaa
namespace Ev
open Go Sm
set_option linter.unusedVariables false
set_option linter.unusedSimpArgs false
section
variable {m : Mx}
end
end Ev
end Go.Proofs.Ytcnfdbkolbgbcaa
end
section
namespace Go.Proofs.Ytcnfdbkolbgbcaa
namespace Ev
open Go Sm
set_option linter.unusedVariables false
set_option linter.unusedSimpArgs false
section
variable {m : Mx} {n c : Int} {l : List E3}
end
end Ev
end Go.Proofs.Ytcnfdbkolbgbcaa
end
section
namespace Go.Proofs.Ytcnfdbkolbgbcaa
namespace Ev
open Go Sm
set_option linter.unusedVariables false
set_option linter.unusedSimpArgs false
section
variable {m : Mx} {n c : Int} {l : List E3}
end
end Ev
end Go.Proofs.Ytcnfdbkolbgbcaa
end
section
namespace Go.Proofs.Ytcnfdbkolbgbcaa
namespace Ev
open Go Sm
set_option linter.unusedVariables false
set_option linter.unusedSimpArgs false
theorem same_rows {α : Type} [DecidableEq α] {x y : Sl α} (hl : x.l.length ≤ 9223372036854775806) {w : Nat} (hx : okS w x) (hy : okS w y) {b : Int → Option (Int ⊕ PUnit ⊕ Bool ⊕ Empty)} {P : α → α → Prop} [∀ u v, Decidable (P u v)] (hP : ∀ u v, P u v ↔ u = v)
  (hb : ∀ a, b a = if a < (x.l.length : Int) then (atS w x a).bind fun u => (atS w y a).bind fun v => if ¬ P u v then some (.inr (.inr (.inl false))) else some (.inl (IntKind.i64.wrap (a + 1))) else some (.inr (.inl ()))) :
  (if (x.l.length : Int) ≠ (y.l.length : Int) then some false else (loopO b 0).bind fun (y : PUnit ⊕ Bool ⊕ Empty) => Sum.elim (fun _ => some true) (fun v => Sum.elim (fun v => some v) (fun v => nE v) v) y) = some (decide (x.l = y.l)) := by
 refine same_slice hl hx hy fun a => ?_
 rw [hb]
 by_cases h : a < (x.l.length : Int)
 ·rw [if_pos h, if_pos h]
  cases atS w x a with
  | none => rfl
  | some u =>
   cases atS w y a with
   | none => rfl
   | some v =>
    simp only [Option.bind_some]
    by_cases he : u = v
    ·rw [if_neg (fun hh => hh ((hP u v).2 he)), if_neg (fun hh => hh he)]
    ·rw [if_pos (fun hh => he ((hP u v).1 hh)), if_pos he]
 ·rw [if_neg h, if_neg h]
section
variable {m m' : Mx} {n c : Int} {l : List E3}
end
end Ev
end Go.Proofs.Ytcnfdbkolbgbcaa
end
