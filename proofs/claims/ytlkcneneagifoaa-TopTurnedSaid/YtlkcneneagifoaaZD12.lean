/- Texts of a claim, joined. -/
import Derived.Test.YtlkcneneagifoaaZD11
import Derived.Test.YtlkcneneagifoaaZD5
import Derived.Test.YtlkcneneagifoaaZD9
import Derived.Test.YtlkcneneagifoaaZD3
import Derived.Test.YtlkcneneagifoaaZD10
set_option linter.unusedVariables false
set_option linter.unusedSimpArgs false
section
namespace Go.Proofs.Ytlkcneneagifoaa
namespace Ev
namespace K
open Go Go.RowKit
set_option linter.unusedVariables false
set_option linter.unusedSimpArgs false
set_option maxRecDepth 100000
set_option maxHeartbeats 1000000
theorem csr_size_Gok : GOk csr_size_G E1 0 := gok E1_ok TT_ok EQS_ok trivial trivial
theorem csr_size_ok : EntryOk E1 csr_size_E := mkE_ok csr_size_Gok (by kernel_rfl) fn63 (by kernel_rfl) rfl
theorem csr_build_Gok : GOk csr_build_G E1 0 := gok E1_ok TT_ok EQS_ok trivial ⟨⟨fn75, rfl⟩, trivial⟩
theorem csr_build_ok : EntryOk E1 csr_build_E := mkE_ok csr_build_Gok (by kernel_rfl) fn65 (by kernel_rfl) rfl
theorem csr_rises_Gok : GOk csr_rises_G E1 0 := gok E1_ok TT_ok EQS_ok trivial trivial
theorem csr_rises_ok : EntryOk E1 csr_rises_E := mkE_ok csr_rises_Gok (by kernel_rfl) fn73 (by kernel_rfl) rfl
theorem csr_Right_Gok : GOk csr_Right_G E1 1 := gok E1_ok TT_ok EQS_ok ⟨⟨by decide, csr_size_ok⟩, ⟨⟨by decide, csr_rises_ok⟩, trivial⟩⟩ trivial
theorem csr_Right_ok : EntryOk E1 csr_Right_E := mkE_ok csr_Right_Gok (by kernel_rfl) fn21 (by kernel_rfl) rfl
theorem csr_sure_Gok : GOk csr_sure_G E1 7 := gok E1_ok TT_ok EQS_ok ⟨⟨by decide, csr_Right_ok⟩, ⟨⟨by decide, csr_build_ok⟩, trivial⟩⟩ trivial
theorem csr_sure_ok : EntryOk E1 csr_sure_E := mkE_ok csr_sure_Gok (by kernel_rfl) fn71 (by kernel_rfl) rfl
theorem csr_row_Gok : GOk csr_row_G E1 0 := gok E1_ok TT_ok EQS_ok trivial trivial
theorem csr_row_ok : EntryOk E1 csr_row_E := mkE_ok csr_row_Gok (by kernel_rfl) fn70 (by kernel_rfl) rfl
theorem edges_vertex_Gok : GOk edges_vertex_G E1 0 := gok E1_ok TT_ok EQS_ok trivial trivial
theorem edges_vertex_ok : EntryOk E1 edges_vertex_E := mkE_ok edges_vertex_Gok (by kernel_rfl) fn108 (by kernel_rfl) rfl
theorem edges_Right_Gok : GOk edges_Right_G E1 1 := gok E1_ok TT_ok EQS_ok ⟨⟨by decide, edges_vertex_ok⟩, trivial⟩ ⟨⟨fn106, rfl⟩, ⟨⟨fn107, rfl⟩, ⟨⟨fn109, rfl⟩, ⟨⟨fn127, rfl⟩, trivial⟩⟩⟩⟩
theorem edges_Right_ok : EntryOk E1 edges_Right_E := mkE_ok edges_Right_Gok (by kernel_rfl) fn80 (by kernel_rfl) rfl
theorem edges_Canon_Gok : GOk edges_Canon_G E1 1 := gok E1_ok TT_ok EQS_ok ⟨⟨by decide, edges_Combine_ok⟩, trivial⟩ trivial
theorem edges_Canon_ok : EntryOk E1 edges_Canon_E := mkE_ok edges_Canon_Gok (by kernel_rfl) fn61 (by kernel_rfl) rfl
theorem csr_Turn_Gok : GOk csr_Turn_G E1 8 := gok E1_ok TT_ok EQS_ok ⟨⟨by decide, csr_row_ok⟩, ⟨⟨by decide, csr_sure_ok⟩, trivial⟩⟩ ⟨⟨fn75, rfl⟩, ⟨⟨fn76, rfl⟩, trivial⟩⟩
theorem csr_Turn_ok : EntryOk E1 csr_Turn_E := mkE_ok csr_Turn_Gok (by kernel_rfl) fn31 (by kernel_rfl) rfl
theorem csr_Graph_Gok : GOk csr_Graph_G E1 15 := gok E1_ok TT_ok EQS_ok ⟨⟨by decide, csr_Turn_ok⟩, ⟨⟨by decide, edges_Canon_ok⟩, ⟨⟨by decide, csr_build_ok⟩, ⟨⟨by decide, edges_Right_ok⟩, trivial⟩⟩⟩⟩ trivial
theorem csr_Graph_ok : EntryOk E1 csr_Graph_E := mkE_ok csr_Graph_Gok (by kernel_rfl) fn36 (by kernel_rfl) rfl
theorem csr_Count_Gok : GOk csr_Count_G E1 8 := gok E1_ok TT_ok EQS_ok ⟨⟨by decide, csr_sure_ok⟩, trivial⟩ trivial
theorem csr_Count_ok : EntryOk E1 csr_Count_E := mkE_ok csr_Count_Gok (by kernel_rfl) fn23 (by kernel_rfl) rfl
theorem csr_Row_Gok : GOk csr_Row_G E1 8 := gok E1_ok TT_ok EQS_ok ⟨⟨by decide, csr_row_ok⟩, ⟨⟨by decide, csr_sure_ok⟩, trivial⟩⟩ trivial
theorem csr_Row_ok : EntryOk E1 csr_Row_E := mkE_ok csr_Row_Gok (by kernel_rfl) fn26 (by kernel_rfl) rfl
theorem slices_Equal_int_int_Gok : GOk slices_Equal_int_int_G E1 0 := gok E1_ok TT_ok EQS_ok trivial trivial
theorem slices_Equal_int_int_ok : EntryOk E1 slices_Equal_int_int_E := mkE_ok slices_Equal_int_int_Gok (by kernel_rfl) fn78 (by kernel_rfl) rfl
theorem slices_Equal_int64_int64_Gok : GOk slices_Equal_int64_int64_G E1 0 := gok E1_ok TT_ok EQS_ok trivial trivial
theorem slices_Equal_int64_int64_ok : EntryOk E1 slices_Equal_int64_int64_E := mkE_ok slices_Equal_int64_int64_Gok (by kernel_rfl) fn79 (by kernel_rfl) rfl
theorem csr_Same_Gok : GOk csr_Same_G E1 8 := gok E1_ok TT_ok EQS_ok ⟨⟨by decide, csr_sure_ok⟩, ⟨⟨by decide, slices_Equal_int_int_ok⟩, ⟨⟨by decide, slices_Equal_int64_int64_ok⟩, trivial⟩⟩⟩ trivial
theorem csr_Same_ok : EntryOk E1 csr_Same_E := mkE_ok csr_Same_Gok (by kernel_rfl) fn35 (by kernel_rfl) rfl
theorem ref07_SameItems_Gok : GOk ref07_SameItems_G E1 0 := gok E1_ok TT_ok EQS_ok trivial trivial
theorem ref07_SameItems_ok : EntryOk E1 ref07_SameItems_E := mkE_ok ref07_SameItems_Gok (by kernel_rfl) fn25 (by kernel_rfl) rfl
theorem dcsc_size_Gok : GOk dcsc_size_G E1 0 := gok E1_ok TT_ok EQS_ok trivial trivial
theorem dcsc_size_ok : EntryOk E1 dcsc_size_E := mkE_ok dcsc_size_Gok (by kernel_rfl) fn85 (by kernel_rfl) rfl
theorem dcsc_rises_Gok : GOk dcsc_rises_G E1 0 := gok E1_ok TT_ok EQS_ok trivial trivial
theorem dcsc_rises_ok : EntryOk E1 dcsc_rises_E := mkE_ok dcsc_rises_Gok (by kernel_rfl) fn86 (by kernel_rfl) rfl
theorem dcsc_Right_Gok : GOk dcsc_Right_G E1 1 := gok E1_ok TT_ok EQS_ok ⟨⟨by decide, dcsc_size_ok⟩, ⟨⟨by decide, dcsc_rises_ok⟩, trivial⟩⟩ trivial
theorem dcsc_Right_ok : EntryOk E1 dcsc_Right_E := mkE_ok dcsc_Right_Gok (by kernel_rfl) fn48 (by kernel_rfl) rfl
theorem dcsc_sure_Gok : GOk dcsc_sure_G E1 2 := gok E1_ok TT_ok EQS_ok ⟨⟨by decide, dcsc_Right_ok⟩, trivial⟩ trivial
theorem dcsc_sure_ok : EntryOk E1 dcsc_sure_E := mkE_ok dcsc_sure_Gok (by kernel_rfl) fn82 (by kernel_rfl) rfl
theorem dcsc_find_Gok : GOk dcsc_find_G E1 0 := gok E1_ok TT_ok EQS_ok trivial trivial
theorem dcsc_find_ok : EntryOk E1 dcsc_find_E := mkE_ok dcsc_find_Gok (by kernel_rfl) fn83 (by kernel_rfl) rfl
theorem dcsc_Column_Gok : GOk dcsc_Column_G E1 3 := gok E1_ok TT_ok EQS_ok ⟨⟨by decide, dcsc_sure_ok⟩, ⟨⟨by decide, dcsc_find_ok⟩, trivial⟩⟩ trivial
theorem dcsc_Column_ok : EntryOk E1 dcsc_Column_E := mkE_ok dcsc_Column_Gok (by kernel_rfl) fn43 (by kernel_rfl) rfl
theorem dcsc_Count_Gok : GOk dcsc_Count_G E1 3 := gok E1_ok TT_ok EQS_ok ⟨⟨by decide, dcsc_sure_ok⟩, trivial⟩ trivial
theorem dcsc_Count_ok : EntryOk E1 dcsc_Count_E := mkE_ok dcsc_Count_Gok (by kernel_rfl) fn54 (by kernel_rfl) rfl
theorem dcsc_Back_Gok : GOk dcsc_Back_G E1 15 := gok E1_ok TT_ok EQS_ok ⟨⟨by decide, csr_Turn_ok⟩, ⟨⟨by decide, dcsc_sure_ok⟩, trivial⟩⟩ trivial
theorem dcsc_Back_ok : EntryOk E1 dcsc_Back_E := mkE_ok dcsc_Back_Gok (by kernel_rfl) fn50 (by kernel_rfl) rfl
theorem law21_Within_Gok : GOk law21_Within_G E1 0 := gok E1_ok TT_ok EQS_ok trivial trivial
theorem law21_Within_ok : EntryOk E1 law21_Within_E := mkE_ok law21_Within_Gok (by kernel_rfl) fn87 (by kernel_rfl) rfl
theorem law21_Graph_Gok : GOk law21_Graph_G E1 1 := gok E1_ok TT_ok EQS_ok ⟨⟨by decide, law21_Within_ok⟩, trivial⟩ trivial
theorem law21_Graph_ok : EntryOk E1 law21_Graph_E := mkE_ok law21_Graph_Gok (by kernel_rfl) fn58 (by kernel_rfl) rfl
theorem edges_all_Gok : GOk edges_all_G E1 0 := gok E1_ok TT_ok EQS_ok trivial trivial
theorem edges_all_ok : EntryOk E1 edges_all_E := mkE_ok edges_all_Gok (by kernel_rfl) fn89 (by kernel_rfl) rfl
theorem edges_turned_Gok : GOk edges_turned_G E1 0 := gok E1_ok TT_ok EQS_ok trivial trivial
theorem edges_turned_ok : EntryOk E1 edges_turned_E := mkE_ok edges_turned_Gok (by kernel_rfl) fn90 (by kernel_rfl) rfl
theorem edges_Turn_Gok : GOk edges_Turn_G E1 2 := gok E1_ok TT_ok EQS_ok ⟨⟨by decide, edges_Canon_ok⟩, ⟨⟨by decide, edges_all_ok⟩, ⟨⟨by decide, edges_turned_ok⟩, trivial⟩⟩⟩ ⟨⟨fn88, rfl⟩, trivial⟩
theorem edges_Turn_ok : EntryOk E1 edges_Turn_E := mkE_ok edges_Turn_Gok (by kernel_rfl) fn59 (by kernel_rfl) rfl
theorem edges_Outs_Gok : GOk edges_Outs_G E1 1 := gok E1_ok TT_ok EQS_ok ⟨⟨by decide, edges_vertex_ok⟩, trivial⟩ ⟨⟨fn91, rfl⟩, ⟨⟨fn92, rfl⟩, trivial⟩⟩
theorem edges_Outs_ok : EntryOk E1 edges_Outs_E := mkE_ok edges_Outs_Gok (by kernel_rfl) fn60 (by kernel_rfl) rfl
end K
end Ev
end Go.Proofs.Ytlkcneneagifoaa
end
section
namespace Go.Proofs.Ytlkcneneagifoaa
namespace Ev
namespace L2
open Go
set_option linter.unusedVariables false
set_option linter.unusedSimpArgs false
set_option maxRecDepth 100000
set_option maxHeartbeats 1000000
attribute [local irreducible] OpsL StL TnL WpL EndL
theorem E1_fn : K.E1.fn = fiOf Try.prog := envOf_fn _ _
theorem ty3 : K.E1.ti 3 = some (⟨.int .i64, [.int .i64 0], 1, 8⟩ : TI) := by kernel_rfl
theorem ty26 : K.E1.ti 26 = some (⟨.slice 3, [.slice none 0 0], 1, 24⟩ : TI) := by kernel_rfl
theorem ty29 : K.E1.ti 29 = some (⟨.struct (flds Try.prog 29), [.int .i64 0, .int .i64 0, .slice none 0 0, .slice none 0 0, .slice none 0 0], 5, 88⟩ : TI) := by kernel_rfl
theorem ty68 : K.E1.ti 68 = some (⟨.struct (flds Try.prog 68), [.int .i64 0, .int .i64 0, .slice none 0 0, .slice none 0 0, .slice none 0 0, .slice none 0 0], 6, 112⟩ : TI) := by kernel_rfl
theorem pl68 : places (tiOf Try.prog) (⟨.struct (flds Try.prog 68), [.int .i64 0, .int .i64 0, .slice none 0 0, .slice none 0 0, .slice none 0 0, .slice none 0 0], 6, 112⟩ : TI) = some fun i => ([(0, 1), (1, 1), (2, 1), (3, 1), (4, 1), (5, 1)] : List (Nat × Nat))[i]? := by kernel_rfl
theorem sz3 : sizeAt (tiOf Try.prog) 3 = some (1, false) := by kernel_rfl
theorem sz26 : sizeAt (tiOf Try.prog) 26 = some (1, false) := by kernel_rfl
theorem el26 : elemAt (tiOf Try.prog) 26 = some 1 := by kernel_rfl
theorem sz27 : sizeAt (tiOf Try.prog) 27 = some (1, false) := by kernel_rfl
theorem sz29 : sizeAt (tiOf Try.prog) 29 = some (5, true) := by kernel_rfl
theorem fa29_0 : fieldAt (tiOf Try.prog) 29 0 = some (0, 1, false) := by kernel_rfl
theorem fa29_1 : fieldAt (tiOf Try.prog) 29 1 = some (1, 1, false) := by kernel_rfl
theorem fa29_2 : fieldAt (tiOf Try.prog) 29 2 = some (2, 1, false) := by kernel_rfl
theorem fa29_3 : fieldAt (tiOf Try.prog) 29 3 = some (3, 1, false) := by kernel_rfl
theorem fa29_4 : fieldAt (tiOf Try.prog) 29 4 = some (4, 1, false) := by kernel_rfl
theorem sz68 : sizeAt (tiOf Try.prog) 68 = some (6, true) := by kernel_rfl
theorem fa68_2 : fieldAt (tiOf Try.prog) 68 2 = some (2, 1, false) := by kernel_rfl
theorem fa68_3 : fieldAt (tiOf Try.prog) 68 3 = some (3, 1, false) := by kernel_rfl
def r3 (x : Int) : List T := [iT .i64 x]
def r2 (x : Int) : List T := [iT .i64 x]
def r67 (x : Int × Int × Sl (Int) × Sl (Int) × Sl (Int) × Sl (Int)) : List T := [iT .i64 x.1, iT .i64 x.2.1, Sl.t r3 x.2.2.1, Sl.t r3 x.2.2.2.1, Sl.t r3 x.2.2.2.2.1, Sl.t r2 x.2.2.2.2.2]
def r28 (x : Int × Int × Sl (Int) × Sl (Int) × Sl (Int)) : List T := [iT .i64 x.1, iT .i64 x.2.1, Sl.t r3 x.2.2.1, Sl.t r3 x.2.2.2.1, Sl.t r2 x.2.2.2.2]
theorem ax84 : K.E1.ax 84 = some fun _ => none := rfl
noncomputable def csr_Turn (a : Int × Int × Sl (Int) × Sl (Int) × Sl (Int)) : Option (Int × Int × Sl (Int) × Sl (Int) × Sl (Int)) := K.csr_Turn a
theorem csr_Turn_r (m : Nat) {a out : Int × Int × Sl (Int) × Sl (Int) × Sl (Int)} (h : csr_Turn a = some out) : RunsP K.E1 (m + 15) 31 [.agg (r28 a)] (.fresh, [.agg (r28 out)]) := K.csr_Turn_ok m a out h
noncomputable def dcsc_Of_b1 (s11 : Sl (Int)) (s19 : Sl (Int)) (a : Int × List (Int) × List (Int)) : Option ((Int × List (Int) × List (Int)) ⊕ ((List (Int) × List (Int)) ⊕ Empty)) :=
 match a with
 | (n56, l57, l58) => (if n56 < ((s19.l.length : Nat) : Int) then ((atS 1 s19 n56).bind fun n64 => ((atS 1 s11 (IntKind.i64.wrap (n56 + 1))).bind fun n67 => (if n67 > n64 then ((app l57 ([n56] : List (Int))).bind fun _ => ((app l58 ([n67] : List (Int))).bind fun _ => some (.inl ((IntKind.i64.wrap (n56 + 1)), (l57 ++ ([n56] : List (Int))), (l58 ++ ([n67] : List (Int))))))) else some (.inl ((IntKind.i64.wrap (n56 + 1)), l57, l58))))) else some (.inr (.inl (l57, l58))))
noncomputable def dcsc_Of (a0 : Int × Int × Sl (Int) × Sl (Int) × Sl (Int)) : Option ((Int × Int × Sl (Int) × Sl (Int) × Sl (Int) × Sl (Int))) :=
 match a0 with
 | (n1, n2, s3, s4, s5) => ((csr_Turn (n1, n2, s3, s4, s5)).bind fun (n9, n10, s11, s12, s13) => ((cutS 1 s11 0 (IntKind.i64.wrap (((s11.l.length : Nat) : Int) - 1))).bind fun s19 => ((loopO (dcsc_Of_b1 s11 s19) (0, ([] : List (Int)), ([0] : List (Int)))).bind (Sum.elim (fun ⟨l75, l76⟩ => some (n10, n9, (mo 1 l75), (⟨true, 1, l76⟩ : Sl (Int)), s12, s13)) (fun u => u.elim)))))
theorem dcsc_Of_r (m : Nat) {a0 : Int × Int × Sl (Int) × Sl (Int) × Sl (Int)} {out : (Int × Int × Sl (Int) × Sl (Int) × Sl (Int) × Sl (Int))} (h : dcsc_Of a0 = some out) : RunsP K.E1 (m + 16) 46 [.agg (r28 a0)] (.fresh, [.agg (r67 out)]) := by
 obtain ⟨n1, n2, s3, s4, s5⟩ := a0
 refine fn_F rfl (by rw [E1_fn]; exact show fiOf Try.prog 46 = _ by unfold fiOf; rw [Try.func46]; unfold Try.f46; rfl) rfl ?_
 dsimp only
 unfold dcsc_Of at h
 refine L_seq ?_
 refine L_ops ?_
 refine ol_new rfl rfl rfl (q_box ty29 rfl (cs := [iC .i64 n1, iC .i64 n2, .p false (Sl.t r3 s3), .p false (Sl.t r3 s4), .p false (Sl.t r2 s5)]) rfl rfl) (fun k6 => ?_)
 refine ol_new rfl rfl rfl (q_alloc ty68 (row := [iC .i64 0, iC .i64 0, .p true (Sl.t r3 (⟨false, 0, []⟩ : Sl (Int))), .p true (Sl.t r3 (⟨false, 0, []⟩ : Sl (Int))), .p true (Sl.t r3 (⟨false, 0, []⟩ : Sl (Int))), .p true (Sl.t r2 (⟨false, 0, []⟩ : Sl (Int)))]) rfl rfl) (fun k7 => ?_)
 refine ol_end ?_
 refine E_seq ?_
 refine L_seq ?_
 refine L_ops ?_
 refine ol_put rfl rfl rfl (q_loadP (v := .agg [iC .i64 n1, iC .i64 n2, .p false (Sl.t r3 s3), .p false (Sl.t r3 s4), .p false (Sl.t r2 s5)]) 1 rfl sz29 rfl rfl rfl rfl) ?_
 obtain ⟨⟨n9, n10, s11, s12, s13⟩, h8, h⟩ := bindS h
 refine ol_put rfl rfl rfl (q_callF (v := .agg [iC .i64 n9, iC .i64 n10, .p true (Sl.t r3 s11), .p true (Sl.t r3 s12), .p true (Sl.t r2 s13)]) (args := [.agg [iC .i64 n1, iC .i64 n2, .p false (Sl.t r3 s3), .p false (Sl.t r3 s4), .p false (Sl.t r2 s5)]]) (csr_Turn_r (m + 0) h8) rfl rfl (vw_cons (vd_agg (vc_cons vc_v (vc_cons vc_v (vc_cons vc_s (vc_cons vc_s (vc_cons vc_s vc_nil)))))) vw_nil) rfl rfl) ?_
 refine ol_new rfl rfl rfl (q_alloc ty29 (row := [iC .i64 0, iC .i64 0, .p true (Sl.t r3 (⟨false, 0, []⟩ : Sl (Int))), .p true (Sl.t r3 (⟨false, 0, []⟩ : Sl (Int))), .p true (Sl.t r2 (⟨false, 0, []⟩ : Sl (Int)))]) rfl rfl) (fun k14 => ?_)
 refine ol_wr rfl rfl (q_store (es' := [[iC .i64 n9, iC .i64 n10, .p true (Sl.t r3 s11), .p true (Sl.t r3 s12), .p true (Sl.t r2 s13)]]) 0 rfl rfl rfl sz29 rfl rfl rfl rfl rfl) rfl ?_
 refine ol_end ?_
 refine E_seq ?_
 refine L_seq ?_
 refine L_ops ?_
 refine ol_put rfl rfl rfl (q_fieldP rfl fa29_1 rfl) ?_
 refine ol_put rfl rfl rfl (q_loadP (v := .one (iC .i64 n10)) 0 rfl sz3 rfl rfl rfl rfl) ?_
 refine ol_put rfl rfl rfl (q_fieldP rfl fa29_0 rfl) ?_
 refine ol_put rfl rfl rfl (q_loadP (v := .one (iC .i64 n9)) 0 rfl sz3 rfl rfl rfl rfl) ?_
 refine ol_new rfl rfl rfl (q_bslice (cs := [iC .i64 0]) (es := (([0] : List (Int))).map (rowC r3)) ty26 rfl ty3 rfl rfl rfl rfl rfl) (fun k15 => ?_)
 refine ol_put rfl rfl rfl (q_fieldP rfl fa29_3 rfl) ?_
 refine ol_put rfl rfl rfl (q_loadP (v := .one (.p true (Sl.t r3 s12))) 1 rfl sz26 rfl rfl rfl rfl) ?_
 refine ol_put rfl rfl rfl (q_fieldP rfl fa29_4 rfl) ?_
 refine ol_put rfl rfl rfl (q_loadP (v := .one (.p true (Sl.t r2 s13))) 1 rfl sz27 rfl rfl rfl rfl) ?_
 refine ol_put rfl rfl rfl (q_build (cs := [iC .i64 n10, iC .i64 n9, .p true (Sl.t r3 (⟨false, 0, []⟩ : Sl (Int))), .own k15 0 (([0] : List (Int))).length, .p true (Sl.t r3 s12), .p true (Sl.t r2 s13)]) ty68 rfl pl68 rfl) ?_
 refine ol_new rfl rfl rfl (q_alloc ty68 (row := [iC .i64 0, iC .i64 0, .p true (Sl.t r3 (⟨false, 0, []⟩ : Sl (Int))), .p true (Sl.t r3 (⟨false, 0, []⟩ : Sl (Int))), .p true (Sl.t r3 (⟨false, 0, []⟩ : Sl (Int))), .p true (Sl.t r2 (⟨false, 0, []⟩ : Sl (Int)))]) rfl rfl) (fun k16 => ?_)
 refine ol_wr rfl rfl (q_store (es' := [[iC .i64 n10, iC .i64 n9, .p true (Sl.t r3 (⟨false, 0, []⟩ : Sl (Int))), .own k15 0 (([0] : List (Int))).length, .p true (Sl.t r3 s12), .p true (Sl.t r2 s13)]]) 0 rfl rfl rfl sz68 rfl rfl rfl rfl rfl) rfl ?_
 refine ol_end ?_
 refine E_seq ?_
 refine L_seq ?_
 refine L_seq ?_
 refine L_ops ?_
 refine ol_put rfl rfl rfl (q_fieldP rfl fa29_2 rfl) ?_
 refine ol_put rfl rfl rfl (q_loadP (v := .one (.p true (Sl.t r3 s11))) 2 rfl sz26 rfl rfl rfl rfl) ?_
 refine ol_scallN (args := [.one (.p true (Sl.t r3 s11))]) rfl rfl rfl ax84 (by rw [E1_fn]; exact show fiOf Try.prog 84 = _ by unfold fiOf; rw [Try.func84]; unfold Try.f84; rfl) rfl rfl rfl ?_
 dsimp only
 refine L_seq ?_
 refine L_ops ?_
 refine ol_new rfl rfl rfl (q_box ty26 rfl (cs := [.p true (Sl.t r3 s11)]) rfl rfl) (fun k17 => ?_)
 refine ol_put rfl rfl rfl (q_assign (v := .one (.p true (.v .nilFunc))) rfl) ?_
 refine ol_end ?_
 refine E_seq ?_
 refine L_seq ?_
 refine L_ops ?_
 refine ol_put rfl rfl rfl (q_mkfun rfl rfl) ?_
 refine ol_put rfl rfl rfl (q_assign (v := .one (.clo (.func 110) [] [.ptr k17 0 0])) rfl) ?_
 refine ol_end ?_
 refine E_seq ?_
 refine L_ret ?_
 refine E_call (v := .one (.clo (.func 110) [] [.ptr k17 0 0])) (.inr rfl) (res_tmp (d := .one (.clo (.func 110) [] [.ptr k17 0 0])) rfl res_nil) rfl ?_
 refine ol_end ?_
 refine E_seq ?_
 refine L_block ?_
 refine L_range rfl (by rw [E1_fn]; exact show fiOf Try.prog 110 = _ by unfold fiOf; rw [Try.func110]; unfold Try.f110; rfl) rfl rfl (fun k18 => ?_)
 dsimp only
 refine L_seq ?_
 refine L_ops ?_
 refine ol_put rfl rfl rfl (q_loadP (v := .one (.p true (Sl.t r3 s11))) 1 rfl sz26 rfl rfl rfl rfl) ?_
 refine ol_put rfl rfl rfl (q_loadP (v := .one (.p true (Sl.t r3 s11))) 1 rfl sz26 rfl rfl rfl rfl) ?_
 refine ol_put rfl rfl rfl (q_lenS rfl ty26 rfl rfl rfl rfl) ?_
 refine ol_put rfl rfl rfl (q_bin rfl rfl (p_sub _ _ _ _ _ _ _) rfl) ?_
 obtain ⟨s19, h20, h⟩ := bindS h
 refine ol_put rfl rfl rfl (q_sliceS (r := r3) h20 rfl ty26 rfl ty3 no_zero (no_some rfl (Int.le_trans (cutS_some h20).1.1 (cutS_some h20).1.2.1) _)) ?_
 refine ol_put rfl rfl rfl (q_lenS rfl ty26 rfl rfl rfl rfl) ?_
 refine ol_put rfl rfl rfl (q_move (v := .one (iC .i64 0)) rfl) ?_
 refine ol_end ?_
 refine E_seq ?_
 refine L_block ?_
 refine L_addM (α := Int) r3 1 ?_
 let S1 : (Int × List (Int) × List (Int)) → (Nat × Nat) → (Nat → D) → Nat → D := fun a kt g => ups g [(0, .one (.yld k18)), (1, .one (.ptr k17 0 0)), (10, .one (.p true (Sl.t r3 s19))), (11, .one (iC .i64 ((s19.l.length : Nat) : Int))), (12, .one (iC .i64 a.1))]
 let SL1 : (Int × List (Int) × List (Int)) → (Nat × Nat) → BL := fun a kt => ([[(k18, 0, [])], [(k17, 1, [[.p true (Sl.t r3 s11)]])], [(k7, 6, [[iC .i64 0, iC .i64 0, .p true (Sl.t r3 (⟨false, 0, []⟩ : Sl (Int))), .p true (Sl.t r3 (⟨false, 0, []⟩ : Sl (Int))), .p true (Sl.t r3 (⟨false, 0, []⟩ : Sl (Int))), .p true (Sl.t r2 (⟨false, 0, []⟩ : Sl (Int)))]])], [(k16, 6, [[iC .i64 n10, iC .i64 n9, moC a.2.1 kt.1, .own kt.2 0 (a.2.2).length, .p true (Sl.t r3 s12), .p true (Sl.t r2 s13)]])], moL r3 1 a.2.1 kt.1, [(kt.2, 1, (a.2.2).map (rowC r3))]] : BL)
 let G1 : Empty → Ex → St → Prop := fun u => u.elim
 let Sx1 : (List (Int) × List (Int)) → (Nat × Nat) → (Nat → D) → Nat → D := fun a kt g => ups g []
 let SLx1 : (List (Int) × List (Int)) → (Nat × Nat) → BL := fun a kt => ([[(k7, 6, [[iC .i64 0, iC .i64 0, .p true (Sl.t r3 (⟨false, 0, []⟩ : Sl (Int))), .p true (Sl.t r3 (⟨false, 0, []⟩ : Sl (Int))), .p true (Sl.t r3 (⟨false, 0, []⟩ : Sl (Int))), .p true (Sl.t r2 (⟨false, 0, []⟩ : Sl (Int)))]])], [(k16, 6, [[iC .i64 n10, iC .i64 n9, moC a.1 kt.1, .own kt.2 0 (a.2).length, .p true (Sl.t r3 s12), .p true (Sl.t r2 s13)]])], [(k18, 0, [])], moL r3 1 a.1 kt.1, [(kt.2, 1, (a.2).map (rowC r3))]] : BL)
 let J1 : ((List (Int) × List (Int)) ⊕ Empty) → Ex → St → Prop := JX 33 0 Sx1 SLx1 G1
 refine L_loopS (dcsc_Of_b1 s11 s19) S1 SL1 J1 JX_n (0, ([] : List (Int)), ([0] : List (Int))) h (1054, k15) (ups_self ⟨rfl, rfl, rfl, rfl, rfl, trivial⟩) [1, 2, 6, 3, 0, 4] (by decide) rfl ?_ ?_
 ·rintro ⟨n56, l57, l58⟩ ⟨k59, k60⟩ g out h
  change dcsc_Of_b1 s11 s19 (n56, l57, l58) = some out at h
  unfold dcsc_Of_b1 at h
  refine L_seq ?_
  refine L_ops ?_
  by_cases c61 : n56 < ((s19.l.length : Nat) : Int)
  ·replace h := ifT c61 h
   refine ol_put rfl rfl rfl (q_bin rfl rfl (p_lss_t _ _ _ _ _ c61) rfl) ?_
   refine ol_end ?_
   refine E_seq ?_
   refine L_seq ?_
   refine L_condT rfl ?_
   refine L_skip ?_
   refine E_seq ?_
   refine L_seq ?_
   refine L_block ?_
   refine L_seq ?_
   refine L_ops ?_
   refine ol_put rfl rfl rfl (q_move (v := .one (iC .i64 n56)) rfl) ?_
   obtain ⟨n64, h63, h⟩ := bindS h
   obtain ⟨h63a, h63b, h63⟩ := atS_some h63
   refine ol_put rfl rfl rfl (q_ixS rfl rfl h63a h63 (el26.trans (congrArg some h63b.symm))) ?_
   refine ol_put rfl rfl rfl (q_loadI (v := .one (iC .i64 n64)) rfl sz3 (map_get h63) rfl rfl) ?_
   refine ol_put rfl rfl rfl (q_assign (v := .one (iC .i64 n56)) rfl) ?_
   refine ol_put rfl rfl rfl (q_assign (v := .one (iC .i64 n64)) rfl) ?_
   refine ol_end ?_
   refine E_seq ?_
   refine L_seq ?_
   refine L_ops ?_
   refine ol_put rfl rfl rfl (q_loadP (v := .one (.p true (Sl.t r3 s11))) 1 rfl sz26 rfl rfl rfl rfl) ?_
   refine ol_put rfl rfl rfl (q_move (v := .one (iC .i64 n56)) rfl) ?_
   refine ol_put rfl rfl rfl (q_bin rfl rfl (p_add _ _ _ _ _ _ _) rfl) ?_
   obtain ⟨n67, h66, h⟩ := bindS h
   obtain ⟨h66a, h66b, h66⟩ := atS_some h66
   refine ol_put rfl rfl rfl (q_ixS rfl rfl h66a h66 (el26.trans (congrArg some h66b.symm))) ?_
   refine ol_put rfl rfl rfl (q_loadI (v := .one (iC .i64 n67)) rfl sz3 (map_get h66) rfl rfl) ?_
   refine ol_put rfl rfl rfl (q_assign (v := .one (iC .i64 n67)) rfl) ?_
   refine ol_end ?_
   refine E_seq ?_
   refine L_seq ?_
   refine L_ops ?_
   refine ol_put rfl rfl rfl (q_move (v := .one (iC .i64 n67)) rfl) ?_
   refine ol_put rfl rfl rfl (q_move (v := .one (iC .i64 n64)) rfl) ?_
   by_cases c68 : n67 > n64
   ·replace h := ifT c68 h
    refine ol_put rfl rfl rfl (q_bin rfl rfl (p_gtr_t _ _ _ _ _ c68) rfl) ?_
    refine ol_put rfl rfl rfl (q_move (v := .one (bC true)) rfl) ?_
    refine ol_put rfl rfl rfl (q_move (v := .one (.yld k18)) rfl) ?_
    refine ol_put rfl rfl rfl (q_move (v := .one (iC .i64 n56)) rfl) ?_
    refine ol_put rfl rfl rfl (q_move (v := .one (iC .i64 n67)) rfl) ?_
    refine ol_yield (args := [.one (iC .i64 n56), .one (iC .i64 n67)]) (p := 0) rfl rfl rfl rfl rfl rfl rfl rfl rfl ?_
    refine L_seq ?_
    refine L_ops ?_
    refine ol_put rfl rfl rfl (q_assign (v := .one (iC .i64 n56)) rfl) ?_
    refine ol_end ?_
    refine E_seq ?_
    refine L_ops ?_
    refine ol_put rfl rfl rfl (q_assign (v := .one (iC .i64 n67)) rfl) ?_
    refine ol_end ?_
    refine E_asg ?_
    refine L_block ?_
    refine L_seq ?_
    refine L_ops ?_
    refine ol_put rfl rfl rfl (q_fieldP rfl fa68_2 rfl) ?_
    refine ol_put rfl rfl rfl (q_loadP (v := .one (moC l57 k59)) 3 rfl sz26 rfl rfl rfl rfl) ?_
    refine ol_put rfl rfl rfl (q_move (v := .one (iC .i64 n56)) rfl) ?_
    refine ol_new rfl rfl rfl (q_bslice (cs := [iC .i64 n56]) (es := (([n56] : List (Int))).map (rowC r3)) ty26 rfl ty3 rfl rfl rfl rfl rfl) (fun k69 => ?_)
    obtain ⟨_, h70, h⟩ := bindS h
    obtain ⟨h70b, rfl⟩ := app_some h70
    refine ol_appM (r := r3) (l := l57) (ys := ([n56] : List (Int))) 5 rfl rfl rfl rfl rfl rfl (el_ownM (l := ([n56] : List (Int))) 0 rfl) rfl h70 (fun y => rfl) el26 ty26 rfl rfl rfl rfl rfl (fun k71 => ?_)
    refine ol_put rfl rfl rfl (q_fieldP rfl fa68_2 rfl) ?_
    refine ol_wr rfl rfl (q_store (es' := [[iC .i64 n10, iC .i64 n9, moC (l57 ++ ([n56] : List (Int))) k71, .own k60 0 (l58).length, .p true (Sl.t r3 s12), .p true (Sl.t r2 s13)]]) 5 rfl rfl rfl sz26 rfl rfl rfl rfl rfl) rfl ?_
    refine ol_end ?_
    refine E_seq ?_
    refine L_ops ?_
    refine ol_put rfl rfl rfl (q_fieldP rfl fa68_3 rfl) ?_
    refine ol_put rfl rfl rfl (q_loadP (v := .one (.own k60 0 (l58).length)) 5 rfl sz26 rfl rfl rfl rfl) ?_
    refine ol_put rfl rfl rfl (q_move (v := .one (iC .i64 n67)) rfl) ?_
    refine ol_new rfl rfl rfl (q_bslice (cs := [iC .i64 n67]) (es := (([n67] : List (Int))).map (rowC r3)) ty26 rfl ty3 rfl rfl rfl rfl rfl) (fun k72 => ?_)
    obtain ⟨_, h73, h⟩ := bindS h
    obtain ⟨h73b, rfl⟩ := app_some h73
    refine ol_app rfl rfl rfl (q_app 7 rfl rfl (el_ownM (l := ([n67] : List (Int))) 0 rfl) rfl rfl h73 (fun y => rfl) el26 ty26 rfl rfl rfl rfl rfl) rfl (fun k74 => ?_)
    refine ol_put rfl rfl rfl (q_fieldP rfl fa68_3 rfl) ?_
    refine ol_wr rfl rfl (q_store (es' := [[iC .i64 n10, iC .i64 n9, moC (l57 ++ ([n56] : List (Int))) k71, .own k74 0 ((l58 ++ ([n67] : List (Int)))).length, .p true (Sl.t r3 s12), .p true (Sl.t r2 s13)]]) 7 rfl rfl rfl sz26 rfl rfl rfl rfl rfl) rfl ?_
    refine ol_end ?_
    refine E_blkN ?_
    refine E_roundN (p := 4) rfl ?_
    refine ol_put rfl rfl rfl (q_not rfl) ?_
    refine ol_put rfl rfl rfl (q_pickT (v := .one (bC false)) rfl rfl) ?_
    refine ol_end ?_
    refine E_seq ?_
    refine L_condF rfl ?_
    refine L_skip ?_
    refine E_blkN ?_
    refine E_seq ?_
    refine L_ops ?_
    refine ol_put rfl rfl rfl (q_bin rfl rfl (p_add _ _ _ _ _ _ _) rfl) ?_
    refine ol_put rfl rfl rfl (q_move (v := .one (iC .i64 (IntKind.i64.wrap (n56 + 1)))) rfl) ?_
    refine ol_end ?_
    obtain rfl := Option.some.inj h
    exact E_next (k71, k74) (ups_self ⟨rfl, rfl, rfl, rfl, rfl, trivial⟩) [4, 5, 6, 7, 2, 0] (by decide) rfl
   ·replace h := ifF c68 h
    refine ol_put rfl rfl rfl (q_bin rfl rfl (p_gtr_f _ _ _ _ _ c68) rfl) ?_
    refine ol_put rfl rfl rfl (q_move (v := .one (bC false)) rfl) ?_
    refine ol_skip rfl rfl rfl ?_
    refine ol_skip rfl rfl rfl ?_
    refine ol_skip rfl rfl rfl ?_
    refine ol_skip rfl rfl rfl ?_
    refine ol_skip rfl rfl rfl ?_
    refine ol_put rfl rfl rfl (q_pickF (v := .one (bC false)) rfl rfl) ?_
    refine ol_end ?_
    refine E_seq ?_
    refine L_condF rfl ?_
    refine L_skip ?_
    refine E_blkN ?_
    refine E_seq ?_
    refine L_ops ?_
    refine ol_put rfl rfl rfl (q_bin rfl rfl (p_add _ _ _ _ _ _ _) rfl) ?_
    refine ol_put rfl rfl rfl (q_move (v := .one (iC .i64 (IntKind.i64.wrap (n56 + 1)))) rfl) ?_
    refine ol_end ?_
    obtain rfl := Option.some.inj h
    exact E_next (k59, k60) (ups_self ⟨rfl, rfl, rfl, rfl, rfl, trivial⟩) [0, 1, 2, 3, 4, 5] (by decide) rfl
  ·replace h := ifF c61 h
   refine ol_put rfl rfl rfl (q_bin rfl rfl (p_lss_f _ _ _ _ _ c61) rfl) ?_
   refine ol_end ?_
   refine E_seq ?_
   refine L_seq ?_
   refine L_condF rfl ?_
   refine L_exit ?_
   refine E_seqX ?_
   obtain rfl := Option.some.inj h
   refine E_out ?_
   exact (E_exit (k59, k60) (ups_self trivial) [2, 3, 0, 4, 5] (by decide) rfl)
 ·rintro (⟨l75, l76⟩ | u) h
  ·refine J_x (fun kt g => ?_)
   rcases kt with ⟨k77, k78⟩
   replace h := elimL h
   refine E_blkH ?_
   refine E_range (p := 2) (.inl rfl) rfl ?_
   refine E_blkN ?_
   refine E_seq ?_
   refine L_seq ?_
   refine L_ops ?_
   refine ol_put rfl rfl rfl (q_loadP (v := .agg [iC .i64 n10, iC .i64 n9, moC l75 k77, .own k78 0 (l76).length, .p true (Sl.t r3 s12), .p true (Sl.t r2 s13)]) 1 rfl sz68 rfl rfl rfl rfl) ?_
   refine ol_wr rfl rfl (q_store (es' := [[iC .i64 n10, iC .i64 n9, moC l75 k77, .own k78 0 (l76).length, .p true (Sl.t r3 s12), .p true (Sl.t r2 s13)]]) 0 rfl rfl rfl sz68 rfl rfl rfl rfl rfl) rfl ?_
   refine ol_end ?_
   refine E_seq ?_
   refine L_ret ?_
   obtain rfl := Option.some.inj h
   exact E_endF (.inr rfl) (res_cell (d := .agg [iC .i64 n10, iC .i64 n9, moC l75 k77, .own k78 0 (l76).length, .p true (Sl.t r3 s12), .p true (Sl.t r2 s13)]) 0 rfl sz68 rfl rfl rfl rfl res_nil) (vw_cons (vd_agg (vc_cons vc_v (vc_cons vc_v (vc_cons (vc_M (r := r3) 3 rfl (fun x h m => rfl)) (vc_cons (vc_own (r := r3) 4 rfl (fun x h m => rfl)) (vc_cons vc_s (vc_cons vc_s vc_nil))))))) vw_nil) (fun h hb => own_agg) rfl rfl
  ·exact u.elim
end L2
namespace K
noncomputable def dcsc_Of : vals [(true, .C (.I .i64) (.C (.I .i64) (.C (.S (.I .i64)) (.C (.S (.I .i64)) (.S (.I .i64))))))] → Option (vals [(true, .C (.I .i64) (.C (.I .i64) (.C (.S (.I .i64)) (.C (.S (.I .i64)) (.C (.S (.I .i64)) (.S (.I .i64)))))))]) := L2.dcsc_Of
noncomputable def dcsc_Of_E : Entry := ⟨46, [(true, .C (.I .i64) (.C (.I .i64) (.C (.S (.I .i64)) (.C (.S (.I .i64)) (.S (.I .i64))))))], .data true [(true, .C (.I .i64) (.C (.I .i64) (.C (.S (.I .i64)) (.C (.S (.I .i64)) (.C (.S (.I .i64)) (.S (.I .i64)))))))], dcsc_Of, 16⟩
theorem entry_fresh {E : Env} {k : FuncId} {ins ts : List TyD} {f : vals ins → Option (vals ts)} {d : Nat} (h : ∀ (m : Nat) (a : vals ins) (out : vals ts), f a = some out → RunsP E (m + d) k (tdsOf ins a) (.fresh, tdsOf ts out)) : EntryOk E ⟨k, ins, .data true ts, f, d⟩ := h
theorem dcsc_Of_runs (m : Nat) (a : vals [(true, .C (.I .i64) (.C (.I .i64) (.C (.S (.I .i64)) (.C (.S (.I .i64)) (.S (.I .i64))))))]) (out : vals [(true, .C (.I .i64) (.C (.I .i64) (.C (.S (.I .i64)) (.C (.S (.I .i64)) (.C (.S (.I .i64)) (.S (.I .i64)))))))]) (h : dcsc_Of a = some out) : RunsP E1 (m + 16) 46 (tdsOf [(true, .C (.I .i64) (.C (.I .i64) (.C (.S (.I .i64)) (.C (.S (.I .i64)) (.S (.I .i64))))))] a) (.fresh, tdsOf [(true, .C (.I .i64) (.C (.I .i64) (.C (.S (.I .i64)) (.C (.S (.I .i64)) (.C (.S (.I .i64)) (.S (.I .i64)))))))] out) := L2.dcsc_Of_r (a0 := a) (out := out) m h
theorem dcsc_Of_ok : EntryOk E1 dcsc_Of_E := entry_fresh dcsc_Of_runs
end K
end Ev
end Go.Proofs.Ytlkcneneagifoaa
end
section
namespace Go.Proofs.Ytlkcneneagifoaa
namespace Ev
namespace K
open Go Go.RowKit
set_option linter.unusedVariables false
set_option linter.unusedSimpArgs false
noncomputable def ranF (E : Env) (k : FuncId) : List TD → Option (Kind × List TD) := fun vs => match cpR E 60 k vs with
 | some (.own, rs) => some (.fresh, rs)
 | r => r
theorem own_fresh {P : Program} {k : FuncId} {vs rs : List TD} (h : PureOk P k vs .own rs) : PureOk P k vs .fresh rs := fun w F ys a b c => (h w F ys a b c).mono fun e w' ⟨y, h1, h2, h3, h4⟩ => by
 have e0 : (fun b => b < w.heap.size ∧ (Kind.own ≠ .any ∨ F b)) = (fun b => b < w.heap.size ∧ (Kind.fresh ≠ .any ∨ F b)) := by funext b; simp
 rw [e0] at h2
 exact ⟨y, h1, h2, fun h => by simp at h, h4⟩
theorem ranF_ok {E : Env} (hE : E.Ok) {k : FuncId} (he : Enters E.P k) : ∀ vs kind rs, ranF E k vs = some (kind, rs) → PureOk E.P k vs kind rs ∧ Enters E.P k := fun vs kind rs h => by
 refine ⟨?_, he⟩
 unfold ranF at h
 split at h
 ·rename_i rs' hc
  cases h
  exact own_fresh ((cpR_runs hc).pure hE)
 ·exact (cpR_runs h).pure hE
theorem ranF_run {E : Env} {k : FuncId} {vs : List TD} {kind : Kind} {rs : List TD} (r : RunsP E 60 k vs (kind, rs)) : ranF E k vs = some (match kind with | .own => .fresh | q => q, rs) := by
 unfold ranF
 rw [cpR_eq r]
 cases kind <;> rfl
@[reducible] def outF : OutK → OutK
 | .data fr ts => .data fr ts
 | .own e => .data true [(false, .S e)]
 | .mown e => .data true [(false, .S e)]
 | .gown e => .data true [(false, .S e)]
def outV : (o : OutK) → o.val → (outF o).val
 | .data _ _, x => x
 | .own e, l => (⟨true, e.size, l⟩ : Sl e.val)
 | .mown e, l => mo e.size l
 | .gown _, s => s
def entF (en : Entry) : Entry := ⟨en.k, en.ins, outF en.out, fun a => (en.f a).map (outV en.out), 1⟩
theorem entF_ok {E E2 : Env} {en : Entry} (ok : EntryOk E en) (hd : en.d ≤ 60) (hax : E2.ax en.k = some (ranF E en.k)) : EntryOk E2 (entF en) := fun m a out h => by
 obtain ⟨k, ins, o, f, d⟩ := en
 obtain ⟨x, h1, rfl⟩ := Option.map_eq_some_iff.1 h
 have r := ok (60 - d) a x h1
 rw [show 60 - d + d = 60 by dsimp only at hd; omega] at r
 cases o with
 | data fr ts =>
  cases fr with
  | true =>
   have r : RunsP E 60 k (tdsOf ins a) (.fresh, tdsOf ts x) := r
   exact runsP_ax hax (ranF_run r)
  | false =>
   have r : RunsX E 60 k (tdsOf ins a) (tdsOf ts x) := r
   obtain ⟨fr, hf⟩ := r
   refine ⟨fr, runsP_ax hax ((ranF_run hf).trans ?_)⟩
   cases fr <;> rfl
 | own e =>
  have r : RunsP E 60 k (tdsOf ins a) (.own, [.one (.s true e.size (x.map e.row))]) := r
  exact runsP_ax hax (ranF_run r)
 | mown e =>
  have r : RunsP E 60 k (tdsOf ins a) (resM e.size e.row x) := r
  cases x with
  | nil => exact runsP_ax hax (ranF_run r)
  | cons y l => exact runsP_ax hax (ranF_run r)
 | gown e =>
  have r : RunsP E 60 k (tdsOf ins a) (bif x.nn then .own else .fresh, [.one (.s x.nn x.sz (x.l.map e.row))]) := r
  obtain ⟨nn, sz, l⟩ := x
  cases nn <;> exact runsP_ax hax (ranF_run r)
end K
end Ev
end Go.Proofs.Ytlkcneneagifoaa
end
section
namespace Go.Proofs.Ytlkcneneagifoaa
namespace Ev
open Go
set_option linter.unusedVariables false
mutual
def beqT : T → T → Bool
 | .v (.int k a), .v (.int k' b) => decide (k = k') && decide (a = b)
 | .v (.bool a), .v (.bool b) => a == b
 | .s n z l, .s n' z' l' => (n == n') && (Nat.beq z z' && beqR l l')
 | _, _ => false
def beqL : List T → List T → Bool
 | [], [] => true
 | a :: l, b :: m => beqT a b && beqL l m
 | _, _ => false
def beqR : List (List T) → List (List T) → Bool
 | [], [] => true
 | a :: l, b :: m => beqL a b && beqR l m
 | _, _ => false
end
mutual
theorem beqT_eq : ∀ (a b : T), beqT a b = true → a = b
 | .v x, .v y, h => by
  cases x <;> cases y <;> first
   | (simp only [beqT, Bool.and_eq_true, decide_eq_true_eq] at h; obtain ⟨rfl, rfl⟩ := h; rfl)
   | (simp only [beqT, beq_iff_eq] at h; subst h; rfl)
   | (simp [beqT] at h)
 | .v x, .s n z l, h => by cases x <;> simp [beqT] at h
 | .s n z l, .v x, h => by cases x <;> simp [beqT] at h
 | .s n z l, .s n' z' l', h => by
  simp only [beqT, Bool.and_eq_true, beq_iff_eq] at h
  obtain ⟨rfl, h1, h2⟩ := h
  obtain rfl := Nat.eq_of_beq_eq_true h1
  rw [beqR_eq l l' h2]
theorem beqL_eq : ∀ (a b : List T), beqL a b = true → a = b
 | [], [], _ => rfl
 | [], _ :: _, h => by simp [beqL] at h
 | _ :: _, [], h => by simp [beqL] at h
 | a :: l, b :: m, h => by
  simp only [beqL, Bool.and_eq_true] at h
  rw [beqT_eq a b h.1, beqL_eq l m h.2]
theorem beqR_eq : ∀ (a b : List (List T)), beqR a b = true → a = b
 | [], [], _ => rfl
 | [], _ :: _, h => by simp [beqR] at h
 | _ :: _, [], h => by simp [beqR] at h
 | a :: l, b :: m, h => by
  simp only [beqR, Bool.and_eq_true] at h
  rw [beqL_eq a b h.1, beqR_eq l m h.2]
end
def beqTD : TD → TD → Bool
 | .one a, .one b => beqT a b
 | .agg a, .agg b => beqL a b
 | _, _ => false
theorem beqTD_eq {a b : TD} (h : beqTD a b = true) : a = b := by
 cases a <;> cases b <;> simp only [beqTD, Bool.false_eq_true] at h
 ·rw [beqT_eq _ _ h]
 ·rw [beqL_eq _ _ h]
def beqTDs : List TD → List TD → Bool
 | [], [] => true
 | a :: l, b :: m => beqTD a b && beqTDs l m
 | _, _ => false
theorem beqTDs_eq : ∀ {a b : List TD}, beqTDs a b = true → a = b
 | [], [], _ => rfl
 | [], _ :: _, h => by simp [beqTDs] at h
 | _ :: _, [], h => by simp [beqTDs] at h
 | a :: l, b :: m, h => by
  simp only [beqTDs, Bool.and_eq_true] at h
  rw [beqTD_eq h.1, beqTDs_eq h.2]
def memoF : List (List TD × Kind × List TD) → List TD → Option (Kind × List TD)
 | [], _ => none
 | e :: r, vs => cond (beqTDs e.1 vs) (some e.2) (memoF r vs)
theorem memo_ok {P : Program} {cp : CallP} {k : FuncId} (hc : ∀ vs kind rs, cp k vs = some (kind, rs) → PureOk P k vs kind rs ∧ Enters P k) :
  ∀ (l : List (List TD × Kind × List TD)), (∀ e ∈ l, cp k e.1 = some e.2) → ∀ vs kind rs, memoF l vs = some (kind, rs) → PureOk P k vs kind rs ∧ Enters P k
 | [], _, vs, kind, rs, h => by simp [memoF] at h
 | e :: r, hl, vs, kind, rs, h => by
  unfold memoF at h
  cases hb : beqTDs e.1 vs with
  | true =>
   rw [hb] at h
   simp only [cond_true, Option.some.injEq] at h
   rw [← beqTDs_eq hb]
   exact hc _ _ _ (by rw [hl e List.mem_cons_self, h])
  | false =>
   rw [hb] at h
   exact memo_ok hc r (fun x hx => hl x (List.mem_cons_of_mem _ hx)) vs kind rs h
end Ev
end Go.Proofs.Ytlkcneneagifoaa
end
section
namespace Go.Proofs.Ytlkcneneagifoaa
namespace Ev
namespace K
open Go Go.RowKit
set_option linter.unusedVariables false
set_option linter.unusedSimpArgs false
set_option maxRecDepth 100000
set_option maxHeartbeats 1000000
def mem46 : List (List TD × Kind × List TD) := [([.agg [.v (.int .i64 2), .v (.int .i64 1000), .s true 1 [[.v (.int .i64 0)], [.v (.int .i64 0)], [.v (.int .i64 1)]], .s true 1 [[.v (.int .i64 700)]], .s true 1 [[.v (.int .i64 4)]]]], .fresh, [.agg [.v (.int .i64 2), .v (.int .i64 1000), .s true 1 [[.v (.int .i64 700)]], .s true 1 [[.v (.int .i64 0)], [.v (.int .i64 1)]], .s true 1 [[.v (.int .i64 1)]], .s true 1 [[.v (.int .i64 4)]]]])]
def mem50 : List (List TD × Kind × List TD) := [([.agg [.v (.int .i64 2), .v (.int .i64 1000), .s true 1 [[.v (.int .i64 700)]], .s true 1 [[.v (.int .i64 0)], [.v (.int .i64 1)]], .s true 1 [[.v (.int .i64 1)]], .s true 1 [[.v (.int .i64 4)]]]], .fresh, [.agg [.v (.int .i64 2), .v (.int .i64 1000), .s true 1 [[.v (.int .i64 0)], [.v (.int .i64 0)], [.v (.int .i64 1)]], .s true 1 [[.v (.int .i64 700)]], .s true 1 [[.v (.int .i64 4)]]]])]
noncomputable def axV : Ax := addAx (addAx inlAx 46 (memoF mem46)) 50 (memoF mem50)
noncomputable def EV : Env := envOf Try.prog axV
theorem liveV : (callers EV 300 60).1 42 [] = some (.fresh, [.one (.v (.bool true))]) := by kernel_rfl
theorem entV46 : Ev.Enters Try.prog 46 := ⟨_, _, Try.func46, by kernel_rfl, by unfold Try.f46; rfl⟩
theorem entV50 : Ev.Enters Try.prog 50 := ⟨_, _, Try.func50, by kernel_rfl, by unfold Try.f50; rfl⟩
theorem memV {k : FuncId} {a b : List TD} (r : RunsP E1 60 k a (.fresh, b)) (he : Ev.Enters Try.prog k) : ∀ vs kind rs, memoF [(a, .fresh, b)] vs = some (kind, rs) → PureOk Try.prog k vs kind rs ∧ Ev.Enters Try.prog k := memo_ok (cp := fun k' vs => if k' = k then cpR E1 60 k vs else none) (fun vs kind rs h => by
 rw [if_pos rfl] at h
 exact ⟨(cpR_runs h).pure E1_ok, he⟩) _ (List.forall_mem_cons.2 ⟨by rw [if_pos rfl]; exact cpR_eq r, fun _ h => by cases h⟩)
end K
end Ev
end Go.Proofs.Ytlkcneneagifoaa
end
section
namespace Go.Proofs.Ytlkcneneagifoaa
namespace Ev
open Go Go.RowKit
noncomputable def edges_Combine (x : Int) (y : Sl (Int × Int × Int)) : Option ((Sl (Int × Int × Int)) × Int) := K.edges_Combine (x, y)
noncomputable def csr_size (x : Int) : Option (Bool) := K.csr_size x
noncomputable def csr_build (x : Int) (y : Int) (z : Sl (Int × Int × Int)) : Option (Int × Int × Sl (Int) × Sl (Int) × Sl (Int)) := K.csr_build (x, y, z)
noncomputable def csr_rises (x : Sl (Int)) (y : Int) : Option (Bool) := K.csr_rises (x, y)
noncomputable def csr_Right (x : Int × Int × Sl (Int) × Sl (Int) × Sl (Int)) : Option (Bool) := K.csr_Right x
noncomputable def csr_sure (x : Int × Int × Sl (Int) × Sl (Int) × Sl (Int)) : Option (Int × Int × Sl (Int) × Sl (Int) × Sl (Int)) := K.csr_sure x
noncomputable def csr_row (x : Int × Int × Sl (Int) × Sl (Int) × Sl (Int)) (y : Int) : Option (Sl (Int) × Sl (Int)) := K.csr_row (x, y)
noncomputable def edges_vertex (x : Int) (y : Int) : Option (Bool) := K.edges_vertex (x, y)
noncomputable def edges_Right (x : Int × (Sl (Int × Int × Int))) : Option (Int) := K.edges_Right x
noncomputable def edges_Canon (x : Int × (Sl (Int × Int × Int))) : Option (Int × (Sl (Int × Int × Int))) := K.edges_Canon x
noncomputable def csr_Turn (x : Int × Int × Sl (Int) × Sl (Int) × Sl (Int)) : Option (Int × Int × Sl (Int) × Sl (Int) × Sl (Int)) := K.csr_Turn x
noncomputable def csr_Graph (x : Int × (Sl (Int × Int × Int))) : Option ((Int × Int × Sl (Int) × Sl (Int) × Sl (Int)) × Int) := K.csr_Graph x
noncomputable def csr_Count (x : Int × Int × Sl (Int) × Sl (Int) × Sl (Int)) : Option (Int) := K.csr_Count x
noncomputable def csr_Row (x : Int × Int × Sl (Int) × Sl (Int) × Sl (Int)) (y : Int) : Option (List (Int × Int)) := K.csr_Row (x, y)
noncomputable def slices_Equal_int_int (x : Sl (Int)) (y : Sl (Int)) : Option (Bool) := K.slices_Equal_int_int (x, y)
noncomputable def slices_Equal_int64_int64 (x : Sl (Int)) (y : Sl (Int)) : Option (Bool) := K.slices_Equal_int64_int64 (x, y)
noncomputable def csr_Same (x : Int × Int × Sl (Int) × Sl (Int) × Sl (Int)) (y : Int × Int × Sl (Int) × Sl (Int) × Sl (Int)) : Option (Bool) := K.csr_Same (x, y)
noncomputable def ref07_SameItems (x : Sl (Int × Int)) (y : Sl (Int × Int)) : Option (Bool) := K.ref07_SameItems (x, y)
noncomputable def dcsc_size (x : Int) : Option (Bool) := K.dcsc_size x
noncomputable def dcsc_rises (x : Sl (Int)) (y : Int) : Option (Bool) := K.dcsc_rises (x, y)
noncomputable def dcsc_Right (x : Int × Int × Sl (Int) × Sl (Int) × Sl (Int) × Sl (Int)) : Option (Bool) := K.dcsc_Right x
noncomputable def dcsc_sure (x : Int × Int × Sl (Int) × Sl (Int) × Sl (Int) × Sl (Int)) : Option (Int × Int × Sl (Int) × Sl (Int) × Sl (Int) × Sl (Int)) := K.dcsc_sure x
noncomputable def dcsc_find (x : Int × Int × Sl (Int) × Sl (Int) × Sl (Int) × Sl (Int)) (y : Int) : Option (Int × Int) := K.dcsc_find (x, y)
noncomputable def dcsc_Column (x : Int × Int × Sl (Int) × Sl (Int) × Sl (Int) × Sl (Int)) (y : Int) : Option (List (Int × Int)) := K.dcsc_Column (x, y)
noncomputable def dcsc_Count (x : Int × Int × Sl (Int) × Sl (Int) × Sl (Int) × Sl (Int)) : Option (Int) := K.dcsc_Count x
noncomputable def dcsc_Back (x : Int × Int × Sl (Int) × Sl (Int) × Sl (Int) × Sl (Int)) : Option (Int × Int × Sl (Int) × Sl (Int) × Sl (Int)) := K.dcsc_Back x
noncomputable def law21_Within (x : Int) (y : Int) : Option (Int) := K.law21_Within (x, y)
noncomputable def law21_Graph (x : Int × (Sl (Int × Int × Int))) : Option (Int × (Sl (Int × Int × Int))) := K.law21_Graph x
noncomputable def edges_all (x : Int × Int × Int) : Option (Bool) := K.edges_all x
noncomputable def edges_turned (x : Int × Int × Int) : Option (Int × Int × Int) := K.edges_turned x
noncomputable def edges_Turn (x : Int × (Sl (Int × Int × Int))) : Option (Int × (Sl (Int × Int × Int))) := K.edges_Turn x
noncomputable def edges_Outs (x : Int × (Sl (Int × Int × Int))) : Option (Sl (Int)) := K.edges_Outs x
end Ev
end Go.Proofs.Ytlkcneneagifoaa
end
section
namespace Go.Proofs.Ytlkcneneagifoaa
namespace Ev
open Go
set_option linter.unusedVariables false
set_option linter.unusedSimpArgs false
def okS {α : Type} (w : Nat) (s : Sl α) : Prop := s.l = [] ∨ s.sz = w
theorem SlW.ok {α : Type} {w : Nat} {Q : α → Prop} {s : Sl α} (h : SlW w Q s) : okS w s := .inr h.1
def nilS {α : Type} : Sl α := ⟨false, 0, []⟩
theorem ok_nil {α : Type} {w : Nat} : okS w (nilS : Sl α) := .inl rfl
theorem ok_mo {α : Type} {w : Nat} (l : List α) : okS w (mo w l) := by cases l with | nil => exact .inl rfl | cons x l => exact .inr rfl
theorem at_mo {α : Type} {w : Nat} {l : List α} {j : Nat} {x : α} (h : l[j]? = some x) : atS w (mo w l) (j : Int) = some x := by
 have hj : j < (mo w l).l.length := by rw [mo_l]; exact (List.getElem?_eq_some_iff.1 h).1
 rw [at_get (ok_mo l) hj]
 have : (mo w l).l[j]? = some x := by rw [mo_l]; exact h
 rw [List.getElem?_eq_getElem hj] at this
 exact this
theorem atL_some' {α : Type} {l : List α} {j : Nat} {x : α} (h : l[j]? = some x) : atL l (j : Int) = some x := by
 have hj := (List.getElem?_eq_some_iff.1 h)
 rw [atL_get hj.1, hj.2]
theorem atS_some' {α : Type} {w : Nat} {s : Sl α} (hs : okS w s) {j : Nat} {x : α} (h : s.l[j]? = some x) : atS w s (j : Int) = some x := by
 have hj := (List.getElem?_eq_some_iff.1 h)
 rw [at_get hs hj.1, hj.2]
theorem loop_seq {A R : Type} {b : A → Option (A ⊕ R)} (n : Nat) (st : Nat → A) {r : R} (hs : ∀ j, j < n → b (st j) = some (.inl (st (j + 1)))) (he : b (st n) = some (.inr r)) : loopO b (st 0) = some r := by
 obtain ⟨q, h1, h2⟩ := loop_up (b := b) n (fun j a => a = st j) (fun q => q = r) (fun j a hj ha => .inl ⟨st (j + 1), by rw [ha]; exact hs j hj, rfl⟩) (fun a ha => ⟨r, by rw [ha]; exact he, rfl⟩) 0 (Nat.zero_le _) (st 0) rfl
 rw [h1, h2]
theorem loop_stop {A R : Type} {b : A → Option (A ⊕ R)} (n : Nat) (st : Nat → A) {a : A} (ha : a = st 0) {r : R} (hs : ∀ j, j < n → b (st j) = some (.inl (st (j + 1)))) (he : b (st n) = some (.inr r)) : loopO b a = some r := by rw [ha]; exact loop_seq n st hs he
theorem same_loop {α : Type} [DecidableEq α] {x y : List α} (hl : x.length = y.length) {b : Int → Option (Int ⊕ PUnit ⊕ Bool ⊕ Empty)} (h1 : ∀ j : Nat, (h : j < x.length) → b j = some (if x[j] = y[j] then .inl ((j + 1 : Nat) : Int) else .inr (.inr (.inl false)))) (h2 : ∀ j : Nat, x.length ≤ j → b j = some (.inr (.inl ()))) :
  loopO b 0 = some (if x = y then .inl () else .inr (.inl false)) := by
 obtain ⟨q, q1, q2⟩ := loop_up (b := b) x.length (fun j a => a = (j : Int) ∧ x.take j = y.take j) (fun q => q = if x = y then .inl () else .inr (.inl false))
  (by
   rintro j _ hj ⟨rfl, ht⟩
   rw [h1 j hj]
   by_cases e : x[j] = y[j]
   ·rw [if_pos e]
    refine .inl ⟨_, rfl, rfl, ?_⟩
    rw [List.take_succ_eq_append_getElem hj, List.take_succ_eq_append_getElem (by omega), ht, e]
   ·rw [if_neg e]
    refine .inr ⟨_, rfl, ?_⟩
    rw [if_neg (fun h => e (by simp [h]))])
  (by
   rintro _ ⟨rfl, ht⟩
   refine ⟨_, h2 _ (Nat.le_refl _), ?_⟩
   rw [List.take_of_length_le (Nat.le_refl _), List.take_of_length_le (by omega)] at ht
   rw [if_pos ht]) 0 (Nat.zero_le _) 0 ⟨rfl, by simp⟩
 rw [q1, q2]
theorem all_range {n : Nat} {p : Nat → Bool} : (List.range n).all p = true ↔ ∀ i, i < n → p i = true := by
 rw [List.all_eq_true]
 exact ⟨fun h i hi => h i (List.mem_range.2 hi), fun h i hi => h i (List.mem_range.1 hi)⟩
theorem all_false {n i : Nat} {p : Nat → Bool} (hi : i < n) (h : p i = false) : (List.range n).all p = false := by
 rw [Bool.eq_false_iff]
 intro ha
 rw [all_range.1 ha i hi] at h
 cases h
theorem getD_lt {l : List Int} {j : Nat} (h : j < l.length) : l.getD j 0 = l[j] := by rw [List.getD_eq_getElem?_getD, List.getElem?_eq_getElem h]; rfl
theorem maxI_eq (a b : Int) : maxI a b = max a b := by unfold maxI; split <;> omega
def sizeF (n : Int) : Bool := decide (0 ≤ n) && decide (n ≤ 4096)
theorem sizeF_iff {n : Int} : sizeF n = true ↔ 0 ≤ n ∧ n ≤ 4096 := by unfold sizeF; simp
theorem len_one {n : Int} (h : 0 ≤ n ∧ n ≤ 4096) : lenOk (n + 1) = some () := by unfold lenOk bound; rw [if_pos ⟨by omega, by omega⟩]
theorem len_ok {n : Nat} (h : n ≤ 1000000) : lenOk (n : Int) = some () := by unfold lenOk bound; rw [if_pos ⟨by omega, by omega⟩]
end Ev
end Go.Proofs.Ytlkcneneagifoaa
end
section
namespace Go.Proofs.Ytlkcneneagifoaa
namespace Ev
open Go Go.RowKit
set_option linter.unusedVariables false
set_option maxRecDepth 100000
set_option maxHeartbeats 1000000
abbrev yC := Int × Int × Sl Int × Sl Int × Sl Int × Sl Int
abbrev yM := Int × Int × Sl Int × Sl Int × Sl Int
abbrev yT := Int × Int × Int
theorem csr_size_eq (x : Int) : csr_size x = if x ≥ 0 then some (decide (x ≤ 4096)) else some false := by kernel_rfl
noncomputable def csr_build_b1 (z : Sl yT) : Int × Int × Int × List Int × List Int × List Int → Option (Int × Int × Int × List Int × List Int × List Int ⊕ Int × Int × List Int × List Int × List Int ⊕ Empty) := fun (x : Int × Int × Int × List Int × List Int × List Int) => if x.fst < (↑z.l.length : Int) then (atS 3 z x.fst).bind fun (y : Int × Int × Int) => (atL x.snd.snd.snd.fst (IntKind.i64.wrap (y.fst + 1))).bind fun (x_1 : Int) => (atL x.snd.snd.snd.fst (IntKind.i64.wrap (y.fst + 1))).bind fun (y_1 : Int) => (atL x.snd.snd.snd.fst (IntKind.i64.wrap (y.fst + 1))).bind fun (x_2 : Int) => (atL x.snd.snd.snd.fst (IntKind.i64.wrap (y.fst + 1))).bind fun (y_2 : Int) => (app x.snd.snd.snd.snd.fst [y.snd.fst]).bind fun (lm : List Int) => (app x.snd.snd.snd.snd.snd [y.snd.snd]).bind fun (lm_1 : List Int) => some (Sum.inl (IntKind.i64.wrap (x.fst + 1), x.snd.fst, x.snd.snd.fst, List.set x.snd.snd.snd.fst (IntKind.i64.wrap (y.fst + 1)).toNat (IntKind.i64.wrap (y_1 + 1)), lm, lm_1)) else some (Sum.inr (Sum.inl x.snd))
noncomputable def csr_build_b2 : Int × List Int → Option (Int × List Int ⊕ List Int ⊕ Empty) := fun (x : Int × List Int) => if x.fst < (↑(List.length x.snd) : Int) then (atL x.snd x.fst).bind fun (x_1 : Int) => (atL x.snd x.fst).bind fun (y : Int) => (atL x.snd (IntKind.i64.wrap (x.fst - 1))).bind fun (x_2 : Int) => (atL x.snd (IntKind.i64.wrap (x.fst - 1))).bind fun (y_1 : Int) => (atL x.snd x.fst).bind fun (x_3 : Int) => (atL x.snd x.fst).bind fun (y_2 : Int) => some (Sum.inl (IntKind.i64.wrap (x.fst + 1), List.set x.snd (Int.toNat x.fst) (IntKind.i64.wrap (y + y_1)))) else some (Sum.inr (Sum.inl x.snd))
theorem csr_build_eq (x : Int) (y : Int) (z : Sl yT) : csr_build x y z = (capOk (IntKind.i64.wrap (x + 1)) (IntKind.i64.wrap (x + 1))).bind fun (x_1 : PUnit) => (lenOk (IntKind.i64.wrap (x + 1))).bind fun (x_2 : PUnit) => (loopO (csr_build_b1 z) (0, x, y, List.replicate (IntKind.i64.wrap (x + 1)).toNat 0, [], [])).bind fun (y : Int × Int × List Int × List Int × List Int ⊕ Empty) => Sum.elim (fun (val : Int × Int × List Int × List Int × List Int) => (loopO csr_build_b2 (1, val.snd.snd.fst)).bind fun (y : List Int ⊕ Empty) => Sum.elim (fun (val_1 : List Int) => some (val.fst, val.snd.fst, { nn := true, sz := 1, l := val_1 }, mo 1 val.snd.snd.snd.fst, mo 1 val.snd.snd.snd.snd)) (fun (val : Empty) => nE val) y) (fun (val : Empty) => nE val) y := by kernel_rfl
noncomputable def csr_rises_b1 (x : Sl Int) (y : Int) : Int × Int → Option (Int × Int ⊕ PUnit ⊕ Bool ⊕ Empty) := fun (x_1 : Int × Int) => if x_1.snd < (↑x.l.length : Int) then (atS 1 x x_1.snd).bind fun (y_1 : Int) => if y_1 ≤ x_1.fst then some (Sum.inr (Sum.inr (Sum.inl false))) else if y_1 ≥ y then some (Sum.inr (Sum.inr (Sum.inl false))) else some (Sum.inl (y_1, IntKind.i64.wrap (x_1.snd + 1))) else some (Sum.inr (Sum.inl ()))
theorem csr_rises_eq (x : Sl Int) (y : Int) : csr_rises x y = (loopO (csr_rises_b1 x y) (-1, 0)).bind fun (y : PUnit ⊕ Bool ⊕ Empty) => Sum.elim (fun (val : PUnit) => some true) (fun (val : Bool ⊕ Empty) => Sum.elim (fun (val : Bool) => some val) (fun (val : Empty) => nE val) val) y := by kernel_rfl
noncomputable def csr_Right_b1 (x : yM) : Int → Option (Int ⊕ PUnit ⊕ Bool ⊕ Empty) := fun (x_1 : Int) => if x_1 < x.fst then (atS 1 x.snd.snd.fst x_1).bind fun (y : Int) => (atS 1 x.snd.snd.fst (IntKind.i64.wrap (x_1 + 1))).bind fun (y_1 : Int) => if y_1 < y then some (Sum.inr (Sum.inr (Sum.inl false))) else if y_1 > (↑x.snd.snd.snd.fst.l.length : Int) then some (Sum.inr (Sum.inr (Sum.inl false))) else (cutS 1 x.snd.snd.snd.fst y y_1).bind fun (s' : Sl Int) => (csr_rises s' x.snd.fst).bind fun (out : Bool) => if ¬out = true then some (Sum.inr (Sum.inr (Sum.inl false))) else some (Sum.inl (IntKind.i64.wrap (x_1 + 1))) else some (Sum.inr (Sum.inl ()))
theorem csr_Right_eq (x : yM) : csr_Right x = (csr_size x.fst).bind fun (out : Bool) => if ¬out = true then some false else (csr_size x.snd.fst).bind fun (out : Bool) => if ¬out = true then some false else if (↑x.snd.snd.fst.l.length : Int) ≠ IntKind.i64.wrap (x.fst + 1) then some false else (atS 1 x.snd.snd.fst 0).bind fun (y : Int) => if y ≠ 0 then some false else if (↑x.snd.snd.snd.snd.l.length : Int) ≠ (↑x.snd.snd.snd.fst.l.length : Int) then some false else if (↑x.snd.snd.snd.fst.l.length : Int) > 65536 then some false else (atS 1 x.snd.snd.fst x.fst).bind fun (y : Int) => if y ≠ (↑x.snd.snd.snd.fst.l.length : Int) then some false else (loopO (csr_Right_b1 x) 0).bind fun (y : PUnit ⊕ Bool ⊕ Empty) => Sum.elim (fun (val : PUnit) => some true) (fun (val : Bool ⊕ Empty) => Sum.elim (fun (val : Bool) => some val) (fun (val : Empty) => nE val) val) y := by kernel_rfl
theorem csr_sure_eq (x : yM) : csr_sure x = (csr_Right x).bind fun (out : Bool) => if out = true then some x else (csr_build 0 0 { nn := false, sz := 0, l := [] }).bind fun (out : yM) => some out := by kernel_rfl
theorem csr_row_eq (x : yM) (y : Int) : csr_row x y = if y < 0 then some ({ nn := false, sz := 0, l := [] }, { nn := false, sz := 0, l := [] })
else if y ≥ x.fst then some ({ nn := false, sz := 0, l := [] }, { nn := false, sz := 0, l := [] }) else (atS 1 x.snd.snd.fst y).bind fun (y_1 : Int) => (atS 1 x.snd.snd.fst (IntKind.i64.wrap (y + 1))).bind fun (y : Int) => if y ≤ y ∧ y ≤ (↑x.snd.snd.snd.fst.l.length : Int) then (cutS 1 x.snd.snd.snd.fst y_1 y).bind fun (s' : Sl Int) => if y ≤ y ∧ y ≤ (↑x.snd.snd.snd.snd.l.length : Int) then (cutS 1 x.snd.snd.snd.snd y_1 y).bind fun (s'_1 : Sl Int) => some (s', s'_1) else none else none := by kernel_rfl
theorem edges_vertex_eq (x : Int) (y : Int) : edges_vertex x y = if y ≥ 0 then some (decide (y < x)) else some false := by kernel_rfl
noncomputable def edges_Right_b1 (x : Int × Sl yT) : Int → Option (Int ⊕ PUnit ⊕ Int ⊕ Empty) := fun (x_1 : Int) => if x_1 < (↑x.snd.l.length : Int) then (atS 3 x.snd x_1).bind fun (y : Int × Int × Int) => (edges_vertex x.fst y.fst).bind fun (out : Bool) => if ¬out = true then some (Sum.inr (Sum.inr (Sum.inl x_1))) else (edges_vertex x.fst y.snd.fst).bind fun (out : Bool) => if ¬out = true then some (Sum.inr (Sum.inr (Sum.inl x_1))) else some (Sum.inl (IntKind.i64.wrap (x_1 + 1))) else some (Sum.inr (Sum.inl ()))
noncomputable def edges_Right_b2 (x : Int × Sl yT) : Int → Option (Int ⊕ PUnit ⊕ Int ⊕ Empty) := fun (x_1 : Int) => if x_1 < (↑x.snd.l.length : Int) then (atS 3 x.snd x_1).bind fun (y : Int × Int × Int) => if y.snd.snd < 0 then some (Sum.inr (Sum.inr (Sum.inl x_1))) else if y.snd.snd > 2147483647 then some (Sum.inr (Sum.inr (Sum.inl x_1))) else some (Sum.inl (IntKind.i64.wrap (x_1 + 1))) else some (Sum.inr (Sum.inl ()))
noncomputable def edges_Right_b3 (x : Int × Sl yT) : Int → Option (Int ⊕ PUnit ⊕ Int ⊕ Empty) := fun (x_1 : Int) => if x_1 < (↑x.snd.l.length : Int) then (atS 3 x.snd x_1).bind fun (y : Int × Int × Int) => if y.snd.snd < 0 then some (Sum.inr (Sum.inr (Sum.inl x_1))) else if y.snd.snd > 2147483647 then some (Sum.inr (Sum.inr (Sum.inl x_1))) else some (Sum.inl (IntKind.i64.wrap (x_1 + 1))) else some (Sum.inr (Sum.inl ()))
theorem edges_Right_eq (x : Int × Sl yT) : edges_Right x = if x.fst < 0 then some 3
else if x.fst > 4096 then some 5 else if (↑x.snd.l.length : Int) > 65536 then some 5 else (loopO (edges_Right_b1 x) 0).bind fun (y : PUnit ⊕ Int ⊕ Empty) => Sum.elim (fun (val : PUnit) => (loopO (edges_Right_b2 x) 0).bind fun (y : PUnit ⊕ Int ⊕ Empty) => Sum.elim (fun (val : PUnit) => some 0) (fun (val : Int ⊕ Empty) => Sum.elim (fun (val : Int) => if val ≥ 0 then some 7 else some 0) (fun (val : Empty) => nE val) val) y) (fun (val : Int ⊕ Empty) => Sum.elim (fun (val : Int) => if val ≥ 0 then some 3 else (loopO (edges_Right_b3 x) 0).bind fun (y : PUnit ⊕ Int ⊕ Empty) => Sum.elim (fun (val : PUnit) => some 0) (fun (val : Int ⊕ Empty) => Sum.elim (fun (val : Int) => if val ≥ 0 then some 7 else some 0) (fun (val : Empty) => nE val) val) y) (fun (val : Empty) => nE val) val) y := by kernel_rfl
theorem edges_Canon_eq (x : Int × Sl yT) : edges_Canon x = (edges_Combine 1 x.snd).bind fun (out : Sl yT × Int) => some (x.fst, out.fst) := by kernel_rfl
noncomputable def csr_Turn_b1 (out : yM) : Int × List Int → Option (Int × List Int ⊕ List Int ⊕ Empty) := fun (x : Int × List Int) => if x.fst < (↑out.snd.snd.snd.fst.l.length : Int) then (atS 1 out.snd.snd.snd.fst x.fst).bind fun (y : Int) => (atL x.snd (IntKind.i64.wrap (y + 1))).bind fun (x_1 : Int) => (atL x.snd (IntKind.i64.wrap (y + 1))).bind fun (y_1 : Int) => (atL x.snd (IntKind.i64.wrap (y + 1))).bind fun (x_2 : Int) => (atL x.snd (IntKind.i64.wrap (y + 1))).bind fun (y_2 : Int) => some (Sum.inl (IntKind.i64.wrap (x.fst + 1), List.set x.snd (IntKind.i64.wrap (y + 1)).toNat (IntKind.i64.wrap (y_1 + 1)))) else some (Sum.inr (Sum.inl x.snd))
noncomputable def csr_Turn_b2 : Int × List Int → Option (Int × List Int ⊕ List Int ⊕ Empty) := fun (x : Int × List Int) => if x.fst < (↑(List.length x.snd) : Int) then (atL x.snd x.fst).bind fun (x_1 : Int) => (atL x.snd x.fst).bind fun (y : Int) => (atL x.snd (IntKind.i64.wrap (x.fst - 1))).bind fun (x_2 : Int) => (atL x.snd (IntKind.i64.wrap (x.fst - 1))).bind fun (y_1 : Int) => (atL x.snd x.fst).bind fun (x_3 : Int) => (atL x.snd x.fst).bind fun (y_2 : Int) => some (Sum.inl (IntKind.i64.wrap (x.fst + 1), List.set x.snd (Int.toNat x.fst) (IntKind.i64.wrap (y + y_1)))) else some (Sum.inr (Sum.inl x.snd))
noncomputable def csr_Turn_b3 (x : Int × List Int × List Int × List Int) (out : Sl Int × Sl Int) : Int × List Int × List Int × List Int → Option (Int × List Int × List Int × List Int ⊕ List Int × List Int × List Int ⊕ Empty) := fun (x_1 : Int × List Int × List Int × List Int) => if x_1.fst < (↑out.fst.l.length : Int) then (atS 1 out.fst x_1.fst).bind fun (y : Int) => (atL x_1.snd.snd.snd y).bind fun (x_2 : Int) => (atL x_1.snd.snd.snd y).bind fun (y_1 : Int) => (atL x_1.snd.snd.snd y).bind fun (x_3 : Int) => (atL x_1.snd.snd.snd y).bind fun (y_2 : Int) => (atS 1 out.snd x_1.fst).bind fun (y_3 : Int) => (atL x_1.snd.fst y_1).bind fun (x_4 : Int) => (atL x_1.snd.fst y_1).bind fun (y_4 : Int) => (atL x_1.snd.snd.fst y_2).bind fun (x_5 : Int) => (atL x_1.snd.snd.fst y_2).bind fun (y_5 : Int) => (atL x_1.snd.snd.snd y).bind fun (x_6 : Int) => (atL x_1.snd.snd.snd y).bind fun (y_6 : Int) => (atL x_1.snd.snd.snd y).bind fun (x_7 : Int) => (atL x_1.snd.snd.snd y).bind fun (y_7 : Int) => some (Sum.inl (IntKind.i64.wrap (x_1.fst + 1), List.set x_1.snd.fst y_1.toNat x.fst, List.set x_1.snd.snd.fst y_2.toNat y_3, List.set x_1.snd.snd.snd y.toNat (IntKind.i64.wrap (y_6 + 1)))) else some (Sum.inr (Sum.inl x_1.snd))
noncomputable def csr_Turn_b4 (out : yM) : Int × List Int × List Int × List Int → Option (Int × List Int × List Int × List Int ⊕ List Int × List Int ⊕ Empty) := fun (x : Int × List Int × List Int × List Int) => if x.fst < out.fst then (csr_row out x.fst).bind fun (out : Sl Int × Sl Int) => (loopO (csr_Turn_b3 x out) (0, x.snd)).bind fun (y : List Int × List Int × List Int ⊕ Empty) => Sum.elim (fun (val : List Int × List Int × List Int) => some (Sum.inl (IntKind.i64.wrap (x.fst + 1), val))) (fun (val : Empty) => nE val) y else some (Sum.inr (Sum.inl (x.snd.fst, x.snd.snd.fst)))
theorem csr_Turn_eq (x : yM) : csr_Turn x = (csr_sure x).bind fun (out : yM) => (capOk (IntKind.i64.wrap (out.snd.fst + 1)) (IntKind.i64.wrap (out.snd.fst + 1))).bind fun (x : PUnit) => (lenOk (IntKind.i64.wrap (out.snd.fst + 1))).bind fun (x : PUnit) => (capOk (↑out.snd.snd.snd.fst.l.length : Int) (↑out.snd.snd.snd.fst.l.length : Int)).bind fun (x : PUnit) => (lenOk (↑out.snd.snd.snd.fst.l.length : Int)).bind fun (x : PUnit) => (capOk (↑out.snd.snd.snd.snd.l.length : Int) (↑out.snd.snd.snd.snd.l.length : Int)).bind fun (x : PUnit) => (lenOk (↑out.snd.snd.snd.snd.l.length : Int)).bind fun (x : PUnit) => (loopO (csr_Turn_b1 out) (0, List.replicate (IntKind.i64.wrap (out.snd.fst + 1)).toNat 0)).bind fun (y : List Int ⊕ Empty) => Sum.elim (fun (val : List Int) => (loopO csr_Turn_b2 (1, val)).bind fun (y : List Int ⊕ Empty) => Sum.elim (fun (val : List Int) => (app [] val).bind fun (lm : List Int) => (loopO (csr_Turn_b4 out) (0, List.replicate (↑out.snd.snd.snd.fst.l.length : Int).toNat 0, List.replicate (↑out.snd.snd.snd.snd.l.length : Int).toNat 0, lm)).bind fun (y : List Int × List Int ⊕ Empty) => Sum.elim (fun (val_1 : List Int × List Int) => some (out.snd.fst, out.fst, { nn := true, sz := 1, l := val }, { nn := true, sz := 1, l := val_1.fst }, { nn := true, sz := 1, l := val_1.snd })) (fun (val : Empty) => nE val) y) (fun (val : Empty) => nE val) y) (fun (val : Empty) => nE val) y := by kernel_rfl
noncomputable def csr_Graph_b1 (out : Int × Sl yT) : List yT × Int → Option (List yT × Int ⊕ List yT ⊕ Empty) := fun (x : List yT × Int) => if x.snd < (↑out.snd.l.length : Int) then (atS 3 out.snd x.snd).bind fun (y : Int × Int × Int) => (app x.fst [y]).bind fun (lm : List yT) => some (Sum.inl (lm, IntKind.i64.wrap (x.snd + 1))) else some (Sum.inr (Sum.inl x.fst))
theorem csr_Graph_eq (x : Int × Sl yT) : csr_Graph x = (edges_Right x).bind fun (out : Int) => if out ≠ 0 then some ((0, 0, { nn := false, sz := 0, l := [] }, { nn := false, sz := 0, l := [] }, { nn := false, sz := 0, l := [] }), out) else (capOk 0 (↑x.snd.l.length : Int)).bind fun (x_1 : PUnit) => (lenOk 0).bind fun (x_2 : PUnit) => (edges_Canon x).bind fun (out : Int × Sl yT) => (loopO (csr_Graph_b1 out) (List.replicate (Int.toNat 0) (0, 0, 0), 0)).bind fun (y : List yT ⊕ Empty) => Sum.elim (fun (val : List yT) => (csr_build x.fst x.fst { nn := true, sz := 3, l := val }).bind fun (out : yM) => (csr_Turn out).bind fun (out : yM) => some (out, 0)) (fun (val : Empty) => nE val) y := by kernel_rfl
theorem csr_Count_eq (x : yM) : csr_Count x = (csr_sure x).bind fun (out : yM) => some (↑out.snd.snd.snd.snd.l.length : Int) := by kernel_rfl
noncomputable def csr_Row_b1 (out : Sl Int × Sl Int) : Int × List (Int × Int) → Option (Int × List (Int × Int) ⊕ List (Int × Int) ⊕ Empty) := fun (x : Int × List (Int × Int)) => if x.fst < (↑out.fst.l.length : Int) then (atS 1 out.fst x.fst).bind fun (y : Int) => (atS 1 out.snd x.fst).bind fun (y_1 : Int) => (atL x.snd x.fst).bind fun (x_1 : Int × Int) => (atL x.snd x.fst).bind fun (y_2 : Int × Int) => some (Sum.inl (IntKind.i64.wrap (x.fst + 1), List.set x.snd (Int.toNat x.fst) (y, y_1))) else some (Sum.inr (Sum.inl x.snd))
theorem csr_Row_eq (x : yM) (y : Int) : csr_Row x y = (csr_sure x).bind fun (out : yM) => (csr_row out y).bind fun (out : Sl Int × Sl Int) => (capOk (↑out.fst.l.length : Int) (↑out.fst.l.length : Int)).bind fun (x : PUnit) => (lenOk (↑out.fst.l.length : Int)).bind fun (x : PUnit) => (loopO (csr_Row_b1 out) (0, List.replicate (↑out.fst.l.length : Int).toNat (0, 0))).bind fun (y : List (Int × Int) ⊕ Empty) => Sum.elim (fun (val : List (Int × Int)) => some val) (fun (val : Empty) => nE val) y := by kernel_rfl
noncomputable def slices_Equal_int_int_b1 (x : Sl Int) (y : Sl Int) : Int → Option (Int ⊕ PUnit ⊕ Bool ⊕ Empty) := fun (x_1 : Int) => if x_1 < (↑x.l.length : Int) then (atS 1 x x_1).bind fun (y_1 : Int) => (atS 1 y x_1).bind fun (y : Int) => if y_1 ≠ y then some (Sum.inr (Sum.inr (Sum.inl false))) else some (Sum.inl (IntKind.i64.wrap (x_1 + 1))) else some (Sum.inr (Sum.inl ()))
theorem slices_Equal_int_int_eq (x : Sl Int) (y : Sl Int) : slices_Equal_int_int x y = if (↑x.l.length : Int) ≠ (↑y.l.length : Int) then some false
else (loopO (slices_Equal_int_int_b1 x y) 0).bind fun (y : PUnit ⊕ Bool ⊕ Empty) => Sum.elim (fun (val : PUnit) => some true) (fun (val : Bool ⊕ Empty) => Sum.elim (fun (val : Bool) => some val) (fun (val : Empty) => nE val) val) y := by kernel_rfl
noncomputable def slices_Equal_int64_int64_b1 (x : Sl Int) (y : Sl Int) : Int → Option (Int ⊕ PUnit ⊕ Bool ⊕ Empty) := fun (x_1 : Int) => if x_1 < (↑x.l.length : Int) then (atS 1 x x_1).bind fun (y_1 : Int) => (atS 1 y x_1).bind fun (y : Int) => if y_1 ≠ y then some (Sum.inr (Sum.inr (Sum.inl false))) else some (Sum.inl (IntKind.i64.wrap (x_1 + 1))) else some (Sum.inr (Sum.inl ()))
theorem slices_Equal_int64_int64_eq (x : Sl Int) (y : Sl Int) : slices_Equal_int64_int64 x y = if (↑x.l.length : Int) ≠ (↑y.l.length : Int) then some false
else (loopO (slices_Equal_int64_int64_b1 x y) 0).bind fun (y : PUnit ⊕ Bool ⊕ Empty) => Sum.elim (fun (val : PUnit) => some true) (fun (val : Bool ⊕ Empty) => Sum.elim (fun (val : Bool) => some val) (fun (val : Empty) => nE val) val) y := by kernel_rfl
theorem csr_Same_eq (x : yM) (y : yM) : csr_Same x y = (csr_sure x).bind fun (out : yM) => (csr_sure y).bind fun (out_1 : yM) => if out.fst = out_1.fst then if out.snd.fst = out_1.snd.fst then (slices_Equal_int_int out.snd.snd.fst out_1.snd.snd.fst).bind fun (out_2 : Bool) => if out_2 = true then (slices_Equal_int_int out.snd.snd.snd.fst out_1.snd.snd.snd.fst).bind fun (out_3 : Bool) => if out_3 = true then (slices_Equal_int64_int64 out.snd.snd.snd.snd out_1.snd.snd.snd.snd).bind fun (out : Bool) => some (decide (out = true)) else some false else some false else some false else some false := by kernel_rfl
noncomputable def ref07_SameItems_b1 (x : Sl (Int × Int)) (y : Sl (Int × Int)) : Int → Option (Int ⊕ PUnit ⊕ Bool ⊕ Empty) := fun (x_1 : Int) => if x_1 < (↑x.l.length : Int) then (atS 2 x x_1).bind fun (y_1 : Int × Int) => (atS 2 y x_1).bind fun (y : Int × Int) => if ¬(y_1.fst = y.fst ∧ y_1.snd = y.snd) then some (Sum.inr (Sum.inr (Sum.inl false))) else some (Sum.inl (IntKind.i64.wrap (x_1 + 1))) else some (Sum.inr (Sum.inl ()))
theorem ref07_SameItems_eq (x : Sl (Int × Int)) (y : Sl (Int × Int)) : ref07_SameItems x y = if (↑x.l.length : Int) ≠ (↑y.l.length : Int) then some false
else (loopO (ref07_SameItems_b1 x y) 0).bind fun (y : PUnit ⊕ Bool ⊕ Empty) => Sum.elim (fun (val : PUnit) => some true) (fun (val : Bool ⊕ Empty) => Sum.elim (fun (val : Bool) => some val) (fun (val : Empty) => nE val) val) y := by kernel_rfl
theorem dcsc_size_eq (x : Int) : dcsc_size x = if x ≥ 0 then some (decide (x ≤ 4096)) else some false := by kernel_rfl
noncomputable def dcsc_rises_b1 (x : Sl Int) (y : Int) : Int × Int → Option (Int × Int ⊕ PUnit ⊕ Bool ⊕ Empty) := fun (x_1 : Int × Int) => if x_1.snd < (↑x.l.length : Int) then (atS 1 x x_1.snd).bind fun (y_1 : Int) => if y_1 ≤ x_1.fst then some (Sum.inr (Sum.inr (Sum.inl false))) else if y_1 ≥ y then some (Sum.inr (Sum.inr (Sum.inl false))) else some (Sum.inl (y_1, IntKind.i64.wrap (x_1.snd + 1))) else some (Sum.inr (Sum.inl ()))
theorem dcsc_rises_eq (x : Sl Int) (y : Int) : dcsc_rises x y = (loopO (dcsc_rises_b1 x y) (-1, 0)).bind fun (y : PUnit ⊕ Bool ⊕ Empty) => Sum.elim (fun (val : PUnit) => some true) (fun (val : Bool ⊕ Empty) => Sum.elim (fun (val : Bool) => some val) (fun (val : Empty) => nE val) val) y := by kernel_rfl
noncomputable def dcsc_Right_b1 (x : yC) : Int → Option (Int ⊕ PUnit ⊕ Bool ⊕ Empty) := fun (x_1 : Int) => if x_1 < (↑x.snd.snd.fst.l.length : Int) then (atS 1 x.snd.snd.snd.fst x_1).bind fun (y : Int) => (atS 1 x.snd.snd.snd.fst (IntKind.i64.wrap (x_1 + 1))).bind fun (y_1 : Int) => if y_1 ≤ y then some (Sum.inr (Sum.inr (Sum.inl false))) else if y_1 > (↑x.snd.snd.snd.snd.fst.l.length : Int) then some (Sum.inr (Sum.inr (Sum.inl false))) else (cutS 1 x.snd.snd.snd.snd.fst y y_1).bind fun (s' : Sl Int) => (dcsc_rises s' x.fst).bind fun (out : Bool) => if ¬out = true then some (Sum.inr (Sum.inr (Sum.inl false))) else some (Sum.inl (IntKind.i64.wrap (x_1 + 1))) else some (Sum.inr (Sum.inl ()))
theorem dcsc_Right_eq (x : yC) : dcsc_Right x = (dcsc_size x.fst).bind fun (out : Bool) => if ¬out = true then some false else (dcsc_size x.snd.fst).bind fun (out : Bool) => if ¬out = true then some false else if (↑x.snd.snd.snd.fst.l.length : Int) ≠ IntKind.i64.wrap ((↑x.snd.snd.fst.l.length : Int) + 1) then some false else (atS 1 x.snd.snd.snd.fst 0).bind fun (y : Int) => if y ≠ 0 then some false else (dcsc_rises x.snd.snd.fst x.snd.fst).bind fun (out : Bool) => if ¬out = true then some false else if (↑x.snd.snd.snd.snd.snd.l.length : Int) ≠ (↑x.snd.snd.snd.snd.fst.l.length : Int) then some false else if (↑x.snd.snd.snd.snd.fst.l.length : Int) > 65536 then some false else (atS 1 x.snd.snd.snd.fst (↑x.snd.snd.fst.l.length : Int)).bind fun (y : Int) => if y ≠ (↑x.snd.snd.snd.snd.fst.l.length : Int) then some false else (loopO (dcsc_Right_b1 x) 0).bind fun (y : PUnit ⊕ Bool ⊕ Empty) => Sum.elim (fun (val : PUnit) => some true) (fun (val : Bool ⊕ Empty) => Sum.elim (fun (val : Bool) => some val) (fun (val : Empty) => nE val) val) y := by kernel_rfl
theorem dcsc_sure_eq (x : yC) : dcsc_sure x = (dcsc_Right x).bind fun (out : Bool) => if out = true then some x else some (0, 0, { nn := false, sz := 0, l := [] }, { nn := true, sz := 1, l := [0] }, { nn := false, sz := 0, l := [] }, { nn := false, sz := 0, l := [] }) := by kernel_rfl
noncomputable def dcsc_find_b1 (x : yC) (y : Int) : Int × Int × Int × Int → Option (Int × Int × Int × Int ⊕ Int × Int ⊕ Empty) := fun (x_1 : Int × Int × Int × Int) => if x_1.snd.snd.fst < x_1.snd.snd.snd then (divO IntKind.i64 (IntKind.i64.wrap (x_1.snd.snd.fst + x_1.snd.snd.snd)) 2).bind fun (z : Int) => (atS 1 x.snd.snd.fst z).bind fun (y_1 : Int) => if y_1 = y then (atS 1 x.snd.snd.snd.fst z).bind fun (y : Int) => (atS 1 x.snd.snd.snd.fst (IntKind.i64.wrap (z + 1))).bind fun (y_2 : Int) => some (Sum.inr (Sum.inl (y, y_2))) else if y_1 < y then some (Sum.inl (x_1.fst, x_1.snd.fst, IntKind.i64.wrap (z + 1), x_1.snd.snd.snd)) else some (Sum.inl (x_1.fst, x_1.snd.fst, x_1.snd.snd.fst, z)) else some (Sum.inr (Sum.inl (x_1.fst, x_1.snd.fst)))
theorem dcsc_find_eq (x : yC) (y : Int) : dcsc_find x y = (loopO (dcsc_find_b1 x y) (0, 0, 0, (↑x.snd.snd.fst.l.length : Int))).bind fun (y : Int × Int ⊕ Empty) => Sum.elim (fun (val : Int × Int) => some val) (fun (val : Empty) => nE val) y := by kernel_rfl
noncomputable def dcsc_Column_b1 (out : yC) (out'2 : Int × Int) : List (Int × Int) × Int → Option (List (Int × Int) × Int ⊕ List (Int × Int) ⊕ Empty) := fun (x : List (Int × Int) × Int) => if x.snd < out'2.snd then (atS 1 out.snd.snd.snd.snd.fst x.snd).bind fun (y : Int) => (atS 1 out.snd.snd.snd.snd.snd x.snd).bind fun (y_1 : Int) => (app x.fst [(y, y_1)]).bind fun (lm : List (Int × Int)) => some (Sum.inl (lm, IntKind.i64.wrap (x.snd + 1))) else some (Sum.inr (Sum.inl x.fst))
theorem dcsc_Column_eq (x : yC) (y : Int) : dcsc_Column x y = (dcsc_sure x).bind fun (out : yC) => (dcsc_find out y).bind fun (out_1 : Int × Int) => (capOk 0 (IntKind.i64.wrap (out_1.snd - out_1.fst))).bind fun (x : PUnit) => (lenOk 0).bind fun (x : PUnit) => (loopO (dcsc_Column_b1 out out_1) (List.replicate (Int.toNat 0) (0, 0), out_1.fst)).bind fun (y : List (Int × Int) ⊕ Empty) => Sum.elim (fun (val : List (Int × Int)) => some val) (fun (val : Empty) => nE val) y := by kernel_rfl
theorem dcsc_Count_eq (x : yC) : dcsc_Count x = (dcsc_sure x).bind fun (out : yC) => some (↑out.snd.snd.snd.snd.snd.l.length : Int) := by kernel_rfl
noncomputable def dcsc_Back_b1 (out : yC) : Int × List Int → Option (Int × List Int ⊕ List Int ⊕ Empty) := fun (x : Int × List Int) => if x.fst < (↑out.snd.snd.fst.l.length : Int) then (atS 1 out.snd.snd.fst x.fst).bind fun (y : Int) => (atS 1 out.snd.snd.snd.fst (IntKind.i64.wrap (x.fst + 1))).bind fun (y_1 : Int) => (atL x.snd (IntKind.i64.wrap (y + 1))).bind fun (x_1 : Int) => (atL x.snd (IntKind.i64.wrap (y + 1))).bind fun (y_2 : Int) => some (Sum.inl (IntKind.i64.wrap (x.fst + 1), List.set x.snd (IntKind.i64.wrap (y + 1)).toNat y_1)) else some (Sum.inr (Sum.inl x.snd))
noncomputable def dcsc_Back_b2 (out : yC) : Int × List Int → Option (Int × List Int ⊕ List Int ⊕ Empty) := fun (x : Int × List Int) => if x.fst < out.snd.fst then (atL x.snd (IntKind.i64.wrap (x.fst + 1))).bind fun (x_1 : Int) => (atL x.snd (IntKind.i64.wrap (x.fst + 1))).bind fun (y : Int) => (atL x.snd x.fst).bind fun (x_2 : Int) => (atL x.snd x.fst).bind fun (y_1 : Int) => (atL x.snd (IntKind.i64.wrap (x.fst + 1))).bind fun (x_3 : Int) => (atL x.snd (IntKind.i64.wrap (x.fst + 1))).bind fun (y_2 : Int) => some (Sum.inl (IntKind.i64.wrap (x.fst + 1), List.set x.snd (IntKind.i64.wrap (x.fst + 1)).toNat (maxI y y_1))) else some (Sum.inr (Sum.inl x.snd))
theorem dcsc_Back_eq (x : yC) : dcsc_Back x = (dcsc_sure x).bind fun (out : yC) => (capOk (IntKind.i64.wrap (out.snd.fst + 1)) (IntKind.i64.wrap (out.snd.fst + 1))).bind fun (x : PUnit) => (lenOk (IntKind.i64.wrap (out.snd.fst + 1))).bind fun (x : PUnit) => (loopO (dcsc_Back_b1 out) (0, List.replicate (IntKind.i64.wrap (out.snd.fst + 1)).toNat 0)).bind fun (y : List Int ⊕ Empty) => Sum.elim (fun (val : List Int) => (loopO (dcsc_Back_b2 out) (0, val)).bind fun (y : List Int ⊕ Empty) => Sum.elim (fun (val : List Int) => (csr_Turn (out.snd.fst, out.fst, { nn := true, sz := 1, l := val }, out.snd.snd.snd.snd)).bind fun (out : yM) => some out) (fun (val : Empty) => nE val) y) (fun (val : Empty) => nE val) y := by kernel_rfl
theorem law21_Within_eq (x : Int) (y : Int) : law21_Within x y = if y < 1 then some 0 else if x < 0 then some 0 else (modO x y).bind fun (z : Int) => some z := by kernel_rfl
noncomputable def law21_Graph_b1 (x : Int × Sl yT) : Int × Int × List yT → Option (Int × Int × List yT ⊕ Int × List yT ⊕ Empty) := fun (x_1 : Int × Int × List yT) => if x_1.fst < (↑x.snd.l.length : Int) then if x_1.fst < 60 then if x_1.snd.fst > 0 then (atS 3 x.snd x_1.fst).bind fun (y : Int × Int × Int) => (law21_Within y.fst x_1.snd.fst).bind fun (out : Int) => (law21_Within y.snd.fst x_1.snd.fst).bind fun (out_1 : Int) => (app x_1.snd.snd [(out, out_1, andI IntKind.i64 y.snd.snd 2147483647)]).bind fun (lm : List yT) => some (Sum.inl (IntKind.i64.wrap (x_1.fst + 1), x_1.snd.fst, lm)) else some (Sum.inr (Sum.inl x_1.snd)) else some (Sum.inr (Sum.inl x_1.snd)) else some (Sum.inr (Sum.inl x_1.snd))
theorem law21_Graph_eq (x : Int × Sl yT) : law21_Graph x = (law21_Within x.fst 24).bind fun (out : Int) => (loopO (law21_Graph_b1 x) (0, out, [])).bind fun (y : Int × List yT ⊕ Empty) => Sum.elim (fun (val : Int × List yT) => some (val.fst, mo 3 val.snd)) (fun (val : Empty) => nE val) y := by kernel_rfl
theorem edges_all_eq (x : Int × Int × Int) : edges_all x = some true := by kernel_rfl
theorem edges_turned_eq (x : Int × Int × Int) : edges_turned x = some (x.snd.fst, x.fst, x.snd.snd) := by kernel_rfl
noncomputable def edges_Turn_b1 (x : Int × Sl yT) : Int × Int × List yT → Option (Int × Int × List yT ⊕ Int × List yT ⊕ Empty) := fun (x_1 : Int × Int × List yT) => if x_1.fst < (↑x.snd.l.length : Int) then (atS 3 x.snd x_1.fst).bind fun (y : Int × Int × Int) => (edges_all y).bind fun (out : Bool) => if out = true then (edges_turned y).bind fun (out : Int × Int × Int) => (app x_1.snd.snd [out]).bind fun (lm : List yT) => some (Sum.inl (IntKind.i64.wrap (x_1.fst + 1), x_1.snd.fst, lm)) else some (Sum.inl (IntKind.i64.wrap (x_1.fst + 1), x_1.snd)) else some (Sum.inr (Sum.inl x_1.snd))
theorem edges_Turn_eq (x : Int × Sl yT) : edges_Turn x = (loopO (edges_Turn_b1 x) (0, x.fst, [])).bind fun (y : Int × List yT ⊕ Empty) => Sum.elim (fun (val : Int × List yT) => (edges_Canon (val.fst, mo 3 val.snd)).bind fun (out : Int × Sl yT) => some out) (fun (val : Empty) => nE val) y := by kernel_rfl
noncomputable def edges_Outs_b1 (x : Int × Sl yT) : Int × List Int → Option (Int × List Int ⊕ List Int ⊕ Empty) := fun (x_1 : Int × List Int) => if x_1.fst < (↑x.snd.l.length : Int) then (atS 3 x.snd x_1.fst).bind fun (y : Int × Int × Int) => (edges_vertex x.fst y.fst).bind fun (out : Bool) => if out = true then (atL x_1.snd y.fst).bind fun (x : Int) => (atL x_1.snd y.fst).bind fun (y_1 : Int) => (atL x_1.snd y.fst).bind fun (x : Int) => (atL x_1.snd y.fst).bind fun (y_2 : Int) => some (Sum.inl (IntKind.i64.wrap (x_1.fst + 1), List.set x_1.snd (Int.toNat y.fst) (IntKind.i64.wrap (y_1 + 1)))) else some (Sum.inl (IntKind.i64.wrap (x_1.fst + 1), x_1.snd)) else some (Sum.inr (Sum.inl x_1.snd))
theorem edges_Outs_eq (x : Int × Sl yT) : edges_Outs x = if x.fst < 0 then some { nn := false, sz := 0, l := [] }
else if x.fst > 4096 then some { nn := false, sz := 0, l := [] } else (capOk x.fst x.fst).bind fun (x_1 : PUnit) => (lenOk x.fst).bind fun (x_2 : PUnit) => (loopO (edges_Outs_b1 x) (0, List.replicate (Int.toNat x.fst) 0)).bind fun (y : List Int ⊕ Empty) => Sum.elim (fun (val : List Int) => some { nn := true, sz := 1, l := val }) (fun (val : Empty) => nE val) y := by kernel_rfl
end Ev
end Go.Proofs.Ytlkcneneagifoaa
end
section
namespace Go.Proofs.Ytlkcneneagifoaa
namespace Ev
open Go
set_option linter.unusedVariables false
set_option linter.unusedSimpArgs false
abbrev Mx := Int × Int × Sl Int × Sl Int × Sl Int
abbrev E3 := Int × Int × Int
def ascI : Int → Int → List Int → Bool
 | _, _, [] => true
 | a, n, x :: l => decide (a < x) && decide (x < n) && ascI x n l
theorem ascI_cons (a n x : Int) (l : List Int) : ascI a n (x :: l) = (decide (a < x) && decide (x < n) && ascI x n l) := rfl
theorem ascI_iff' {n : Int} : ∀ {l : List Int} {a : Int}, ascI a n l = true ↔ l.Pairwise (· < ·) ∧ ∀ x ∈ l, a < x ∧ x < n
 | [], a => by simp [ascI]
 | x :: l, a => by
  rw [ascI_cons, Bool.and_eq_true, Bool.and_eq_true, decide_eq_true_eq, decide_eq_true_eq, ascI_iff', List.pairwise_cons]
  constructor
  ·rintro ⟨⟨h1, h2⟩, h3, h4⟩
   refine ⟨⟨fun y hy => (h4 y hy).1, h3⟩, fun y hy => ?_⟩
   rcases List.mem_cons.1 hy with rfl | hy
   ·exact ⟨h1, h2⟩
   ·have := h4 y hy; omega
  ·rintro ⟨⟨h1, h2⟩, h3⟩
   exact ⟨h3 x (by simp), h2, fun y hy => ⟨h1 y hy, (h3 y (by simp [hy])).2⟩⟩
theorem csr_size_w (n : Int) : csr_size n = some (sizeF n) := by
 rw [csr_size_eq]
 unfold sizeF
 by_cases h1 : n ≥ 0
 ·rw [if_pos h1, decide_eq_true (show 0 ≤ n from h1)]; simp
 ·rw [if_neg h1, decide_eq_false (show ¬ 0 ≤ n from h1)]; rfl
theorem csr_rises_w (s : Sl Int) (n : Int) (hok : okS 1 s) (hl : s.l.length ≤ 9223372036854775807) : csr_rises s n = some (ascI (-1) n s.l) := by
 rw [csr_rises_eq]
 obtain ⟨r, h1, h2⟩ := loop_up (b := csr_rises_b1 s n) s.l.length (fun j a => ∃ la, a = (la, (j : Int)) ∧ ascI (-1) n s.l = ascI la n (s.l.drop j)) (fun r => (ascI (-1) n s.l = true ∧ r = .inl ()) ∨ (ascI (-1) n s.l = false ∧ r = .inr (.inl false)))
  (by
   rintro j _ hj ⟨la, rfl, ha⟩
   rw [List.drop_eq_getElem_cons hj, ascI_cons] at ha
   simp only [csr_rises_b1, at_get hok hj, Option.bind_some, w_succ hj hl]
   rw [if_pos (by omega)]
   by_cases c1 : s.l[j] ≤ la
   ·refine .inr ⟨_, if_pos c1, .inr ⟨?_, rfl⟩⟩
    rw [ha, decide_eq_false (by omega)]; rfl
   ·rw [if_neg c1]
    by_cases c2 : s.l[j] ≥ n
    ·refine .inr ⟨_, if_pos c2, .inr ⟨?_, rfl⟩⟩
     rw [ha, decide_eq_false (p := s.l[j] < n) (by omega)]; simp
    ·refine .inl ⟨_, if_neg c2, _, rfl, ?_⟩
     rw [ha, decide_eq_true (by omega), decide_eq_true (by omega)]; rfl)
  (by
   rintro _ ⟨la, rfl, ha⟩
   refine ⟨_, if_neg (by simp only; omega), .inl ⟨?_, rfl⟩⟩
   rw [ha, List.drop_length]; rfl) 0 (Nat.zero_le _) (-1, 0) ⟨-1, rfl, rfl⟩
 rw [h1]
 rcases h2 with ⟨h3, rfl⟩ | ⟨h3, rfl⟩ <;> rw [h3] <;> rfl
def cutL {α : Type} (l : List α) (f t : Int) : List α := (l.drop f.toNat).take (t.toNat - f.toNat)
theorem cutL_len {α : Type} {l : List α} {f t : Int} (h : 0 ≤ f ∧ f ≤ t ∧ t ≤ l.length) : (cutL l f t).length = t.toNat - f.toNat := by
 unfold cutL; simp; omega
def rowOk (c : Int) (st co : List Int) (i : Nat) : Bool := decide (0 ≤ st.getD i 0) && (decide (st.getD i 0 ≤ st.getD (i + 1) 0) && (decide (st.getD (i + 1) 0 ≤ co.length) && ascI (-1) c (cutL co (st.getD i 0) (st.getD (i + 1) 0))))
def rightM (m : Mx) : Bool := sizeF m.1 && (sizeF m.2.1 && (decide ((m.2.2.1.l.length : Int) = m.1 + 1) && (decide (m.2.2.1.l.getD 0 0 = 0) && (decide (m.2.2.2.1.l.length = m.2.2.2.2.l.length) && (decide (m.2.2.2.1.l.length ≤ 65536) && (decide (m.2.2.1.l.getD m.1.toNat 0 = m.2.2.2.1.l.length) && (List.range m.1.toNat).all (rowOk m.2.1 m.2.2.1.l m.2.2.2.1.l)))))))
structure OkM (m : Mx) : Prop where
 st : okS 1 m.2.2.1
 co : okS 1 m.2.2.2.1
 va : okS 1 m.2.2.2.2
 v64 : ∀ x ∈ m.2.2.2.2.l, i64r x
 sl : m.2.2.1.l.length ≤ 9223372036854775807
 cl : m.2.2.2.1.l.length ≤ 9223372036854775807
 vl : m.2.2.2.2.l.length ≤ 9223372036854775807
theorem rowOk_false {n : Nat} {c : Int} {st co : List Int} {i : Nat} (hi : i < n) (h : rowOk c st co i = false) : (List.range n).all (rowOk c st co) = false := all_false hi h
theorem rows_csr {n : Nat} {c : Int} {s t v : Sl Int} (hs : okS 1 s) (ht : okS 1 t) (hn : n ≤ 4096) (hl : s.l.length = n + 1) (h0 : s.l.getD 0 0 = 0) (tl : t.l.length ≤ 65536) : ∃ q, loopO (csr_Right_b1 ((n : Int), c, s, t, v)) 0 = some q ∧ (((List.range n).all (rowOk c s.l t.l) = true ∧ q = .inl ()) ∨ ((List.range n).all (rowOk c s.l t.l) = false ∧ q = .inr (.inl false))) := by
 refine loop_up (b := csr_Right_b1 ((n : Int), c, s, t, v)) n (fun j a => a = (j : Int) ∧ 0 ≤ s.l.getD j 0 ∧ ∀ i, i < j → rowOk c s.l t.l i = true) _ ?_ ?_ 0 (Nat.zero_le _) 0 ⟨rfl, by omega, fun i hi => absurd hi (by omega)⟩
 ·rintro j _ hj ⟨rfl, hp, ha⟩
  have e1 := at_get hs (j := j) (by omega)
  have e2 := at_get hs (j := j + 1) (by omega)
  rw [← getD_lt] at e1 e2
  simp only [csr_Right_b1, e1, Option.bind_some, w_succ hj (by omega)]
  rw [if_pos (by omega), e2]
  simp only [Option.bind_some]
  by_cases c1 : s.l.getD (j + 1) 0 < s.l.getD j 0
  ·rw [if_pos c1]
   exact .inr ⟨_, rfl, .inr ⟨rowOk_false hj (by unfold rowOk; rw [decide_eq_false (p := s.l.getD j 0 ≤ s.l.getD (j + 1) 0) (by omega)]; simp), rfl⟩⟩
  rw [if_neg c1]
  by_cases c2 : s.l.getD (j + 1) 0 > ((t.l.length : Nat) : Int)
  ·rw [if_pos c2]
   exact .inr ⟨_, rfl, .inr ⟨rowOk_false hj (by unfold rowOk; rw [decide_eq_false (p := s.l.getD (j + 1) 0 ≤ (t.l.length : Int)) (by omega)]; simp), rfl⟩⟩
  rw [if_neg c2]
  have hc : cutS 1 t (s.l.getD j 0) (s.l.getD (j + 1) 0) = some ⟨t.nn, t.sz, cutL t.l (s.l.getD j 0) (s.l.getD (j + 1) 0)⟩ := by
   unfold cutS
   have hz : t.sz = 1 ∨ s.l.getD j 0 = 0 := by
    rcases ht with h | h
    ·right; rw [h] at c2; simp only [List.length_nil] at c2; omega
    ·exact .inl h
   rw [if_pos ⟨hp, by omega, by omega, hz⟩]; rfl
  rw [hc]
  simp only [Option.bind_some]
  have hcl : (cutL t.l (s.l.getD j 0) (s.l.getD (j + 1) 0)).length ≤ 65536 := by rw [cutL_len ⟨hp, by omega, by omega⟩]; omega
  have hok : okS 1 (⟨t.nn, t.sz, cutL t.l (s.l.getD j 0) (s.l.getD (j + 1) 0)⟩ : Sl Int) := by
   rcases ht with h | h
   ·left; unfold cutL; simp [h]
   ·exact .inr h
  rw [csr_rises_w _ c hok (show (cutL t.l (s.l.getD j 0) (s.l.getD (j + 1) 0)).length ≤ _ by omega)]
  simp only [Option.bind_some]
  have hr : rowOk c s.l t.l j = ascI (-1) c (cutL t.l (s.l.getD j 0) (s.l.getD (j + 1) 0)) := by
   unfold rowOk
   rw [decide_eq_true hp, decide_eq_true (p := s.l.getD j 0 ≤ s.l.getD (j + 1) 0) (by omega), decide_eq_true (p := s.l.getD (j + 1) 0 ≤ (t.l.length : Int)) (by omega)]
   simp
  cases hb : ascI (-1) c (cutL t.l (s.l.getD j 0) (s.l.getD (j + 1) 0)) with
  | true =>
   rw [if_neg (by simp)]
   refine .inl ⟨_, rfl, rfl, by omega, fun i hi => ?_⟩
   by_cases e : i = j
   ·rw [e, hr, hb]
   ·exact ha i (by omega)
  | false =>
   rw [if_pos (by simp)]
   exact .inr ⟨_, rfl, .inr ⟨rowOk_false hj (by rw [hr, hb]), rfl⟩⟩
 ·rintro _ ⟨rfl, hp, ha⟩
  exact ⟨_, if_neg (by omega), .inl ⟨all_range.2 ha, rfl⟩⟩
theorem csr_Right_w {m : Mx} (h : OkM m) : csr_Right m = some (rightM m) := by
 obtain ⟨n, c, s, t, v⟩ := m
 obtain ⟨h1, h2, h3, h4, h5, h6, h7⟩ := h
 simp only at h1 h2 h3 h4 h5 h6 h7
 rw [csr_Right_eq]
 unfold rightM
 simp only [csr_size_w, Option.bind_some]
 cases z1 : sizeF n with
 | false => rfl
 | true =>
  cases z2 : sizeF c with
  | false => rfl
  | true =>
   obtain ⟨a1, a2⟩ := sizeF_iff.1 z1
   simp only [Bool.true_and, not_true_eq_false, if_false]
   rw [wrap64 (n := n + 1) (by omega) (by omega)]
   by_cases g1 : ((s.l.length : Nat) : Int) = n + 1
   ·rw [if_neg (fun h => h g1), decide_eq_true g1]
    have e0 := at_get h1 (j := 0) (by omega)
    rw [← getD_lt] at e0
    have e0' : atS 1 s 0 = some (s.l.getD 0 0) := e0
    rw [e0']
    simp only [Option.bind_some, Bool.true_and]
    by_cases g2 : s.l.getD 0 0 = 0
    ·rw [if_neg (fun h => h g2), decide_eq_true g2]
     simp only [Bool.true_and]
     by_cases g3 : t.l.length = v.l.length
     ·rw [if_neg (fun h => h (by omega)), decide_eq_true g3]
      simp only [Bool.true_and]
      by_cases g4 : t.l.length ≤ 65536
      ·rw [if_neg (by omega), decide_eq_true g4]
       simp only [Bool.true_and]
       obtain ⟨k, rfl⟩ := Int.eq_ofNat_of_zero_le a1
       have en := at_get h1 (j := k) (by omega)
       rw [← getD_lt] at en
       rw [en]
       simp only [Option.bind_some, Int.toNat_natCast]
       by_cases g5 : s.l.getD k 0 = ((t.l.length : Nat) : Int)
       ·rw [if_neg (fun h => h g5), decide_eq_true g5]
        simp only [Bool.true_and]
        obtain ⟨q, q1, q2⟩ := rows_csr (c := c) (v := v) h1 h2 (by omega) (n := k) (by omega) g2 g4
        rw [q1]
        rcases q2 with ⟨e, rfl⟩ | ⟨e, rfl⟩ <;> rw [e] <;> rfl
       ·rw [if_pos g5, decide_eq_false g5]; rfl
      ·rw [if_pos (by omega), decide_eq_false g4]; rfl
     ·rw [if_pos (fun h => g3 (by omega)), decide_eq_false g3]; rfl
    ·rw [if_pos g2, decide_eq_false g2]; rfl
   ·rw [if_pos g1, decide_eq_false g1]; rfl
end Ev
end Go.Proofs.Ytlkcneneagifoaa
end
section
namespace Go.Proofs.Ytlkcneneagifoaa
namespace Ev
open Go Sm
set_option linter.unusedVariables false
set_option linter.unusedSimpArgs false
def bel (a b : E3) : Bool := klt (key a) (key b)
theorem bel_iff {a b : E3} : bel a b = true ↔ a.1 < b.1 ∨ a.1 = b.1 ∧ a.2.1 < b.2.1 := by unfold bel klt key; simp
abbrev rises (l : List E3) : Prop := l.Pairwise fun a b => bel a b = true
def tabN (n : Nat) (f : Nat → Int) : List Int := (List.range (n + 1)).map f
theorem tabN_len (n : Nat) (f : Nat → Int) : (tabN n f).length = n + 1 := by unfold tabN; simp
theorem tabN_get {n k : Nat} (f : Nat → Int) (h : k ≤ n) : (tabN n f)[k]? = some (f k) := by
 unfold tabN
 rw [List.getElem?_map, List.getElem?_range (by omega)]; rfl
theorem tabN_getD {n k : Nat} (f : Nat → Int) (h : k ≤ n) : (tabN n f).getD k 0 = f k := by rw [List.getD_eq_getElem?_getD, tabN_get f h]; rfl
theorem tabN_congr {n : Nat} {f g : Nat → Int} (h : ∀ k, k ≤ n → f k = g k) : tabN n f = tabN n g := by
 unfold tabN
 refine List.map_congr_left fun k hk => h k ?_
 simp at hk; omega
theorem tabN_set {n k : Nat} (f : Nat → Int) (v : Int) (h : k ≤ n) : (tabN n f).set k v = tabN n fun i => if i = k then v else f i := by
 refine List.ext_getElem? fun i => ?_
 rw [List.getElem?_set]
 by_cases hi : i ≤ n
 ·rw [tabN_get _ hi]
  by_cases e : k = i
  ·subst e; rw [if_pos rfl, if_pos (by rw [tabN_len]; omega), tabN_get _ hi, if_pos rfl]
  ·rw [if_neg e, tabN_get _ hi, if_neg (Ne.symm e)]
 ·rw [if_neg (by omega)]
  rw [List.getElem?_eq_none (by rw [tabN_len]; omega), List.getElem?_eq_none (by rw [tabN_len]; omega)]
theorem tabN_zero (n : Nat) : List.replicate (n + 1) (0 : Int) = tabN n fun _ => 0 := by
 refine List.ext_getElem? fun i => ?_
 by_cases hi : i ≤ n
 ·rw [tabN_get _ hi, List.getElem?_replicate, if_pos (by omega)]
 ·rw [List.getElem?_eq_none (by simp; omega), List.getElem?_eq_none (by rw [tabN_len]; omega)]
def cntR (l : List E3) (k : Nat) : Nat := l.countP fun x => decide (x.1 < (k : Int))
theorem cntR_le (l : List E3) (k : Nat) : cntR l k ≤ l.length := List.countP_le_length
def matV (n c : Int) (l : List E3) : Mx := (n, c, ⟨true, 1, tabN n.toNat fun k => ((cntR l k : Nat) : Int)⟩, mo 1 (l.map (·.2.1)), mo 1 (l.map (·.2.2)))
theorem split_lt {l : List E3} (h : l.Pairwise fun a b => a.1 ≤ b.1) (k : Int) : (l.filter fun x => decide (x.1 < k)) ++ (l.filter fun x => !decide (x.1 < k)) = l := by
 induction l with
 | nil => rfl
 | cons x l ih =>
  rw [List.pairwise_cons] at h
  have ih := ih h.2
  by_cases c : x.1 < k
  ·rw [List.filter_cons_of_pos (by simp [c]), List.filter_cons_of_neg (by simp [c]), List.cons_append, ih]
  ·have e1 : (l.filter fun x => decide (x.1 < k)) = [] := by
    rw [List.filter_eq_nil_iff]
    intro y hy
    have := h.1 y hy
    simp; omega
   rw [e1, List.nil_append] at ih
   rw [List.filter_cons_of_neg (by simp [c]), List.filter_cons_of_pos (by simp [c]), e1, List.nil_append, ih]
theorem take_lt {l : List E3} (h : l.Pairwise fun a b => a.1 ≤ b.1) (k : Nat) : l.take (cntR l k) = (l.filter fun x => decide (x.1 < (k : Int))) ∧ l.drop (cntR l k) = l.filter fun x => !decide (x.1 < (k : Int)) := by
 have e := split_lt h (k : Int)
 have hl : cntR l k = (l.filter fun x => decide (x.1 < (k : Int))).length := by unfold cntR; rw [List.countP_eq_length_filter]
 have key : ∀ A B : List E3, A ++ B = l → l.take A.length = A ∧ l.drop A.length = B := by
  rintro A B rfl
  exact ⟨List.take_left, List.drop_left⟩
 rw [hl]
 exact key _ _ e
def rowE (l : List E3) (i : Nat) : List E3 := (l.filter fun x => !decide (x.1 < (i : Int))).filter fun x => decide (x.1 < ((i + 1 : Nat) : Int))
theorem rowE_mem {l : List E3} {i : Nat} {x : E3} : x ∈ rowE l i ↔ x ∈ l ∧ x.1 = (i : Int) := by
 unfold rowE
 simp only [List.mem_filter, Bool.not_eq_true', decide_eq_false_iff_not, decide_eq_true_eq]
 constructor
 ·rintro ⟨⟨h1, h2⟩, h3⟩; exact ⟨h1, by omega⟩
 ·rintro ⟨h1, h2⟩; exact ⟨⟨h1, by omega⟩, by omega⟩
theorem rises_le {l : List E3} (h : rises l) : l.Pairwise fun a b => a.1 ≤ b.1 := h.imp fun hb => by rw [bel_iff] at hb; omega
theorem row_cut {l : List E3} (h : rises l) (i : Nat) : cntR l i ≤ cntR l (i + 1) ∧ (l.drop (cntR l i)).take (cntR l (i + 1) - cntR l i) = rowE l i := by
 have hle := rises_le h
 have e1 := (take_lt hle i).2
 have hmono : cntR l i ≤ cntR l (i + 1) := by
  unfold cntR
  refine List.countP_mono_left fun x _ hx => ?_
  simp only [decide_eq_true_eq] at hx ⊢; omega
 refine ⟨hmono, ?_⟩
 rw [e1]
 have hg : (l.filter fun x => !decide (x.1 < (i : Int))).Pairwise fun a b => a.1 ≤ b.1 := hle.sublist List.filter_sublist
 have e2 := (take_lt hg (i + 1)).1
 have hc : cntR (l.filter fun x => !decide (x.1 < (i : Int))) (i + 1) = cntR l (i + 1) - cntR l i := by
  have h1 : cntR l (i + 1) = cntR (l.filter fun x => decide (x.1 < (i : Int))) (i + 1) + cntR (l.filter fun x => !decide (x.1 < (i : Int))) (i + 1) := by
   conv => lhs; rw [← split_lt hle (i : Int)]
   unfold cntR
   rw [List.countP_append]
  have h2 : cntR (l.filter fun x => decide (x.1 < (i : Int))) (i + 1) = cntR l i := by
   unfold cntR
   rw [List.countP_filter]
   refine List.countP_congr fun x _ => ?_
   simp only [Bool.and_eq_true, decide_eq_true_eq]
   omega
  omega
 rw [← hc, e2]; rfl
theorem row_sorted {l : List E3} (h : rises l) (i : Nat) : ((rowE l i).map (·.2.1)).Pairwise (· < ·) := by
 rw [List.pairwise_map]
 have hs : rises (rowE l i) := h.sublist (List.filter_sublist.trans List.filter_sublist)
 refine hs.imp_of_mem fun {a b} ha hb hab => ?_
 have h1 := (rowE_mem.1 ha).2
 have h2 := (rowE_mem.1 hb).2
 rw [bel_iff] at hab; omega
theorem cutL_map {α β : Type} (f : α → β) (l : List α) (a b : Int) : cutL (l.map f) a b = (cutL l a b).map f := by unfold cutL; rw [← List.map_drop, ← List.map_take]
theorem matV_right {n c : Int} (hn : 0 ≤ n ∧ n ≤ 4096) (hc : 0 ≤ c ∧ c ≤ 4096) {l : List E3} (hl : l.length ≤ 65536) (h : rises l) (hp : ∀ x ∈ l, (0 ≤ x.1 ∧ x.1 < n) ∧ 0 ≤ x.2.1 ∧ x.2.1 < c) : rightM (matV n c l) = true := by
 have h0 : cntR l 0 = 0 := by
  unfold cntR
  rw [List.countP_eq_zero]
  intro x hx
  have := (hp x hx).1.1
  simp; omega
 have hN : cntR l n.toNat = l.length := by
  unfold cntR
  rw [List.countP_eq_length]
  intro x hx
  have := (hp x hx).1.2
  simp; omega
 unfold rightM matV
 simp only [mo_l, Bool.and_eq_true, decide_eq_true_eq, sizeF_iff, List.length_map, tabN_len]
 refine ⟨hn, hc, by omega, ?_, trivial, hl, ?_, ?_⟩
 ·rw [tabN_getD _ (Nat.zero_le _), h0]; rfl
 ·rw [tabN_getD _ (Nat.le_refl _), hN]
 ·refine all_range.2 fun i hi => ?_
  unfold rowOk
  rw [tabN_getD _ (by omega), tabN_getD _ (by omega)]
  obtain ⟨r1, r2⟩ := row_cut h i
  have hle := cntR_le l (i + 1)
  simp only [Bool.and_eq_true, decide_eq_true_eq, List.length_map]
  refine ⟨by omega, by omega, by omega, ?_⟩
  have e : cutL (l.map (·.2.1)) ((cntR l i : Nat) : Int) ((cntR l (i + 1) : Nat) : Int) = (rowE l i).map (·.2.1) := by
   rw [cutL_map]
   unfold cutL
   rw [Int.toNat_natCast, Int.toNat_natCast, r2]
  rw [e]
  exact ascI_iff'.2 ⟨row_sorted h i, fun p hp' => by
   obtain ⟨x, hx, rfl⟩ := List.mem_map.1 hp'
   have := (hp x (rowE_mem.1 hx).1).2
   omega⟩
end Ev
end Go.Proofs.Ytlkcneneagifoaa
end
section
namespace Go.Proofs.Ytlkcneneagifoaa
namespace Ev
open Go Sm
set_option linter.unusedVariables false
set_option linter.unusedSimpArgs false
abbrev RG (r : Int) : Rg := ⟨ofW, ringAdd r, narrowW⟩
end Ev
end Go.Proofs.Ytlkcneneagifoaa
end
section
namespace Go.Proofs.Ytlkcneneagifoaa
namespace Ev
open Go Sm
set_option linter.unusedVariables false
set_option linter.unusedSimpArgs false
def insE {α : Type} (l : List α) (k : Nat) (y : α) : List α := l.take k ++ y :: l.drop k
theorem insE_len {α : Type} {l : List α} {k : Nat} (y : α) : (insE l k y).length = l.length + 1 := by unfold insE; simp; omega
def pos (S : List (Ky × V)) (e : E3) : Nat := (S.takeWhile fun p => klt p.1 (key e)).length
theorem ins_eq (R : Rg) (e : E3) : ∀ (S : List (Ky × V)), ins R S e = if h : pos S e < S.length then (if klt (key e) (S[pos S e]'h).1 = true then insE S (pos S e) (key e, R.o e.2.2) else S.set (pos S e) ((S[pos S e]'h).1, R.ad (S[pos S e]'h).2 (R.o e.2.2))) else S ++ [(key e, R.o e.2.2)]
 | [] => by simp [ins, pos]
 | p :: S => by
  have ih := ins_eq R e S
  unfold ins
  by_cases hp : klt p.1 (key e) = true
  ·have hpos : pos (p :: S) e = pos S e + 1 := by unfold pos; simp [List.takeWhile_cons, hp]
   rw [if_pos hp, ih]
   simp only [hpos, List.length_cons, Nat.add_lt_add_iff_right, List.getElem_cons_succ]
   split
   ·split
    ·unfold insE; simp
    ·simp
   ·simp
  ·have hpos : pos (p :: S) e = 0 := by unfold pos; simp [List.takeWhile_cons, hp]
   rw [if_neg hp]
   simp only [hpos, List.length_cons, Nat.zero_lt_succ, dif_pos, List.getElem_cons_zero]
   split
   ·unfold insE; simp
   ·simp
theorem can_len (R : Rg) (l : List E3) : (canS R l).length ≤ l.length := by
 have key : ∀ (S : List (Ky × V)) e, (ins R S e).length ≤ S.length + 1 := by
  intro S e
  rw [ins_eq]
  split
  ·split
   ·rw [insE_len]; omega
   ·simp
  ·simp
 have : ∀ (l : List E3) (S : List (Ky × V)), (l.foldl (ins R) S).length ≤ S.length + l.length := by
  intro l
  induction l with
  | nil => intro S; simp
  | cons e l ih => intro S; have h1 := ih (ins R S e); have h2 := key S e; simp only [List.foldl_cons, List.length_cons]; omega
 simpa [canS] using this l []
end Ev
end Go.Proofs.Ytlkcneneagifoaa
end
