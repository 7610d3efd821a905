/- Texts of a claim, joined. -/
import Derived.Test.YtlkcneneagifoaaZB13
import Derived.Test.YtlkcneneagifoaaProg
set_option linter.unusedVariables false
set_option linter.unusedSimpArgs false
section
namespace Go.Proofs.Ytlkcneneagifoaa
namespace Ev
namespace K
open Go Go.RowKit
set_option linter.unusedVariables false
set_option linter.unusedSimpArgs false
set_option maxRecDepth 100000
set_option maxHeartbeats 1000000
noncomputable def fi4 : FI := fiF Try.f4
noncomputable def fi18 : FI := fiF Try.f18
noncomputable def fi20 : FI := fiF Try.f20
noncomputable def fi22 : FI := fiF Try.f22
noncomputable def fi24 : FI := fiF Try.f24
noncomputable def fi25 : FI := fiF Try.f25
noncomputable def fi26 : FI := fiF Try.f26
noncomputable def fi27 : FI := fiF Try.f27
noncomputable def fi28 : FI := fiF Try.f28
noncomputable def fi30 : FI := fiF Try.f30
noncomputable def fi32 : FI := fiF Try.f32
noncomputable def fi34 : FI := fiF Try.f34
noncomputable def fi68 : FI := fiF Try.f68
noncomputable def fi69 : FI := fiF Try.f69
noncomputable def fi74 : FI := fiF Try.f74
end K
end Ev
end Go.Proofs.Ytlkcneneagifoaa
end
section
namespace Go.Proofs.Ytlkcneneagifoaa
namespace Ev
namespace K
open Go Go.RowKit
set_option linter.unusedVariables false
set_option linter.unusedSimpArgs false
set_option maxRecDepth 100000
set_option maxHeartbeats 1000000
theorem fn18 : E1.fn 18 = some fi18 := fn_of Try.func18 rfl
theorem fn20 : E1.fn 20 = some fi20 := fn_of Try.func20 rfl
theorem fn22 : E1.fn 22 = some fi22 := fn_of Try.func22 rfl
theorem fn24 : E1.fn 24 = some fi24 := fn_of Try.func24 rfl
theorem fn25 : E1.fn 25 = some fi25 := fn_of Try.func25 rfl
theorem fn26 : E1.fn 26 = some fi26 := fn_of Try.func26 rfl
theorem fn27 : E1.fn 27 = some fi27 := fn_of Try.func27 rfl
theorem fn28 : E1.fn 28 = some fi28 := fn_of Try.func28 rfl
theorem fn30 : E1.fn 30 = some fi30 := fn_of Try.func30 rfl
theorem fn32 : E1.fn 32 = some fi32 := fn_of Try.func32 rfl
theorem fn34 : E1.fn 34 = some fi34 := fn_of Try.func34 rfl
theorem fn68 : E1.fn 68 = some fi68 := fn_of Try.func68 rfl
theorem fn69 : E1.fn 69 = some fi69 := fn_of Try.func69 rfl
theorem fn74 : E1.fn 74 = some fi74 := fn_of Try.func74 rfl
end K
end Ev
end Go.Proofs.Ytlkcneneagifoaa
end
section
namespace Go.Proofs.Ytlkcneneagifoaa
namespace Ev
namespace K
open Go Go.RowKit
set_option linter.unusedVariables false
set_option linter.unusedSimpArgs false
set_option maxRecDepth 100000
set_option maxHeartbeats 1000000
def csr_Row_A : AnnK := [(26, ⟨[⟨false, 4, 0, [6, 7, 20, 21], ⟨[(22, false, [.d true (.I .i64)])], [], [(.sl 7 0, .C (.I .i64) (.I .i64))]⟩, [(.exit 0, ⟨[], [], [(.sl 7 0, .C (.I .i64) (.I .i64))]⟩)]⟩], []⟩)]
noncomputable def csr_Row_G : KG := ⟨TT, EQS, [csr_row_E, csr_sure_E], []⟩
noncomputable def csr_Row : vals [(true, .C (.I .i64) (.C (.I .i64) (.C (.S (.I .i64)) (.C (.S (.I .i64)) (.S (.I .i64)))))), (false, .I .i64)] → Option (OutK.val (.own (.C (.I .i64) (.I .i64)))) := funK csr_Row_G csr_Row_A fi26 26 0 [(true, .C (.I .i64) (.C (.I .i64) (.C (.S (.I .i64)) (.C (.S (.I .i64)) (.S (.I .i64)))))), (false, .I .i64)] (.own (.C (.I .i64) (.I .i64)))
noncomputable def csr_Row_E : Entry := ⟨26, [(true, .C (.I .i64) (.C (.I .i64) (.C (.S (.I .i64)) (.C (.S (.I .i64)) (.S (.I .i64)))))), (false, .I .i64)], .own (.C (.I .i64) (.I .i64)), csr_Row, 9⟩
def ref03_SameInts_A : AnnK := [(68, ⟨[⟨false, 4, 0, [0, 1], ⟨[(5, false, [.d true (.I .i64)])], [], []⟩, [(.exit 0, ⟨[], [], []⟩), (.ret, ⟨[(4, false, [.d true .B])], [], []⟩)]⟩], []⟩)]
noncomputable def ref03_SameInts_G : KG := ⟨TT, EQS, [], []⟩
noncomputable def ref03_SameInts : vals [(false, .S (.I .i64)), (false, .S (.I .i64))] → Option (OutK.val (.data true [(false, .B)])) := funK ref03_SameInts_G ref03_SameInts_A fi68 68 0 [(false, .S (.I .i64)), (false, .S (.I .i64))] (.data true [(false, .B)])
noncomputable def ref03_SameInts_E : Entry := ⟨68, [(false, .S (.I .i64)), (false, .S (.I .i64))], .data true [(false, .B)], ref03_SameInts, 1⟩
def ref07_SameVals_A : AnnK := [(69, ⟨[⟨false, 4, 0, [0, 1], ⟨[(5, false, [.d true (.I .i64)])], [], []⟩, [(.exit 0, ⟨[], [], []⟩), (.ret, ⟨[(4, false, [.d true .B])], [], []⟩)]⟩], []⟩)]
noncomputable def ref07_SameVals_G : KG := ⟨TT, EQS, [], []⟩
noncomputable def ref07_SameVals : vals [(false, .S (.I .i64)), (false, .S (.I .i64))] → Option (OutK.val (.data true [(false, .B)])) := funK ref07_SameVals_G ref07_SameVals_A fi69 69 0 [(false, .S (.I .i64)), (false, .S (.I .i64))] (.data true [(false, .B)])
noncomputable def ref07_SameVals_E : Entry := ⟨69, [(false, .S (.I .i64)), (false, .S (.I .i64))], .data true [(false, .B)], ref07_SameVals, 1⟩
def ref07_Same_A : AnnK := []
noncomputable def ref07_Same_G : KG := ⟨TT, EQS, [ref03_SameInts_E, ref07_SameVals_E], []⟩
noncomputable def ref07_Same : vals [(true, .C (.I .i64) (.C (.I .i64) (.C (.S (.I .i64)) (.C (.S (.I .i64)) (.S (.I .i64)))))), (true, .C (.I .i64) (.C (.I .i64) (.C (.S (.I .i64)) (.C (.S (.I .i64)) (.S (.I .i64))))))] → Option (OutK.val (.data true [(false, .B)])) := funK ref07_Same_G ref07_Same_A fi18 18 0 [(true, .C (.I .i64) (.C (.I .i64) (.C (.S (.I .i64)) (.C (.S (.I .i64)) (.S (.I .i64)))))), (true, .C (.I .i64) (.C (.I .i64) (.C (.S (.I .i64)) (.C (.S (.I .i64)) (.S (.I .i64))))))] (.data true [(false, .B)])
noncomputable def ref07_Same_E : Entry := ⟨18, [(true, .C (.I .i64) (.C (.I .i64) (.C (.S (.I .i64)) (.C (.S (.I .i64)) (.S (.I .i64)))))), (true, .C (.I .i64) (.C (.I .i64) (.C (.S (.I .i64)) (.C (.S (.I .i64)) (.S (.I .i64))))))], .data true [(false, .B)], ref07_Same, 2⟩
def ref07_Right_A : AnnK := [(22, ⟨[⟨false, 6, 0, [1], ⟨[(3, false, [.d true (.I .i64)])], [], []⟩, [(.exit 0, ⟨[], [], []⟩), (.ret, ⟨[(2, false, [.d true .B])], [], []⟩)]⟩, ⟨false, 11, 0, [1, 3], ⟨[(4, false, [.d true (.I .i64)])], [], []⟩, [(.exit 2, ⟨[], [], []⟩), (.ret, ⟨[(2, false, [.d true .B])], [], []⟩)]⟩], []⟩)]
noncomputable def ref07_Right_G : KG := ⟨TT, EQS, [], []⟩
noncomputable def ref07_Right : vals [(true, .C (.I .i64) (.C (.I .i64) (.C (.S (.I .i64)) (.C (.S (.I .i64)) (.S (.I .i64))))))] → Option (OutK.val (.data true [(false, .B)])) := funK ref07_Right_G ref07_Right_A fi22 22 0 [(true, .C (.I .i64) (.C (.I .i64) (.C (.S (.I .i64)) (.C (.S (.I .i64)) (.S (.I .i64))))))] (.data true [(false, .B)])
noncomputable def ref07_Right_E : Entry := ⟨22, [(true, .C (.I .i64) (.C (.I .i64) (.C (.S (.I .i64)) (.C (.S (.I .i64)) (.S (.I .i64))))))], .data true [(false, .B)], ref07_Right, 1⟩
def ref07_Sure_A : AnnK := []
noncomputable def ref07_Sure_G : KG := ⟨TT, EQS, [ref07_Right_E], [(81, fi81)]⟩
noncomputable def ref07_Sure : vals [(true, .C (.I .i64) (.C (.I .i64) (.C (.S (.I .i64)) (.C (.S (.I .i64)) (.S (.I .i64))))))] → Option (OutK.val (.data false [(true, .C (.I .i64) (.C (.I .i64) (.C (.S (.I .i64)) (.C (.S (.I .i64)) (.S (.I .i64))))))])) := funK ref07_Sure_G ref07_Sure_A fi74 74 6 [(true, .C (.I .i64) (.C (.I .i64) (.C (.S (.I .i64)) (.C (.S (.I .i64)) (.S (.I .i64))))))] (.data false [(true, .C (.I .i64) (.C (.I .i64) (.C (.S (.I .i64)) (.C (.S (.I .i64)) (.S (.I .i64))))))])
noncomputable def ref07_Sure_E : Entry := ⟨74, [(true, .C (.I .i64) (.C (.I .i64) (.C (.S (.I .i64)) (.C (.S (.I .i64)) (.S (.I .i64))))))], .data false [(true, .C (.I .i64) (.C (.I .i64) (.C (.S (.I .i64)) (.C (.S (.I .i64)) (.S (.I .i64))))))], ref07_Sure, 8⟩
def ref07_Row_A : AnnK := [(27, ⟨[⟨false, 6, 0, [1, 2], ⟨[(5, false, [.m (.C (.I .i64) (.I .i64))]), (6, false, [.d true (.I .i64)])], [], []⟩, [(.exit 0, ⟨[(5, false, [.m (.C (.I .i64) (.I .i64))])], [], []⟩)]⟩], [(8, ⟨[[], [], [], [], [], [], [], [], [], [], [], [], [], [.sl 5 0], []], [(false, []), (false, []), (false, []), (false, []), (false, []), (false, []), (false, []), (false, []), (false, []), (false, []), (false, []), (false, []), (true, []), (true, []), (false, [])]⟩)]⟩)]
noncomputable def ref07_Row_G : KG := ⟨TT, EQS, [ref07_Sure_E], []⟩
noncomputable def ref07_Row : vals [(true, .C (.I .i64) (.C (.I .i64) (.C (.S (.I .i64)) (.C (.S (.I .i64)) (.S (.I .i64)))))), (false, .I .i64)] → Option (OutK.val (.mown (.C (.I .i64) (.I .i64)))) := funK ref07_Row_G ref07_Row_A fi27 27 0 [(true, .C (.I .i64) (.C (.I .i64) (.C (.S (.I .i64)) (.C (.S (.I .i64)) (.S (.I .i64)))))), (false, .I .i64)] (.mown (.C (.I .i64) (.I .i64)))
noncomputable def ref07_Row_E : Entry := ⟨27, [(true, .C (.I .i64) (.C (.I .i64) (.C (.S (.I .i64)) (.C (.S (.I .i64)) (.S (.I .i64)))))), (false, .I .i64)], .mown (.C (.I .i64) (.I .i64)), ref07_Row, 9⟩
def ref07_Get_A : AnnK := [(20, ⟨[⟨false, 3, 0, [2, 8], ⟨[(9, false, [.d true (.I .i64)])], [], []⟩, [(.exit 0, ⟨[], [], []⟩), (.ret, ⟨[(6, false, [.d true (.I .i64)]), (7, false, [.d true .B])], [], []⟩)]⟩], []⟩)]
noncomputable def ref07_Get_G : KG := ⟨TT, EQS, [ref07_Row_E], []⟩
noncomputable def ref07_Get : vals [(true, .C (.I .i64) (.C (.I .i64) (.C (.S (.I .i64)) (.C (.S (.I .i64)) (.S (.I .i64)))))), (false, .I .i64), (false, .I .i64)] → Option (OutK.val (.data true [(false, .I .i64), (false, .B)])) := funK ref07_Get_G ref07_Get_A fi20 20 0 [(true, .C (.I .i64) (.C (.I .i64) (.C (.S (.I .i64)) (.C (.S (.I .i64)) (.S (.I .i64)))))), (false, .I .i64), (false, .I .i64)] (.data true [(false, .I .i64), (false, .B)])
noncomputable def ref07_Get_E : Entry := ⟨20, [(true, .C (.I .i64) (.C (.I .i64) (.C (.S (.I .i64)) (.C (.S (.I .i64)) (.S (.I .i64)))))), (false, .I .i64), (false, .I .i64)], .data true [(false, .I .i64), (false, .B)], ref07_Get, 10⟩
def ref07_Count_A : AnnK := []
noncomputable def ref07_Count_G : KG := ⟨TT, EQS, [ref07_Sure_E], []⟩
noncomputable def ref07_Count : vals [(true, .C (.I .i64) (.C (.I .i64) (.C (.S (.I .i64)) (.C (.S (.I .i64)) (.S (.I .i64))))))] → Option (OutK.val (.data true [(false, .I .i64)])) := funK ref07_Count_G ref07_Count_A fi24 24 0 [(true, .C (.I .i64) (.C (.I .i64) (.C (.S (.I .i64)) (.C (.S (.I .i64)) (.S (.I .i64))))))] (.data true [(false, .I .i64)])
noncomputable def ref07_Count_E : Entry := ⟨24, [(true, .C (.I .i64) (.C (.I .i64) (.C (.S (.I .i64)) (.C (.S (.I .i64)) (.S (.I .i64))))))], .data true [(false, .I .i64)], ref07_Count, 9⟩
def ref07_SameItems_A : AnnK := [(25, ⟨[⟨false, 4, 0, [0, 1], ⟨[(5, false, [.d true (.I .i64)])], [], []⟩, [(.exit 0, ⟨[], [], []⟩), (.ret, ⟨[(4, false, [.d true .B])], [], []⟩)]⟩], []⟩)]
noncomputable def ref07_SameItems_G : KG := ⟨TT, EQS, [], []⟩
noncomputable def ref07_SameItems : vals [(false, .S (.C (.I .i64) (.I .i64))), (false, .S (.C (.I .i64) (.I .i64)))] → Option (OutK.val (.data true [(false, .B)])) := funK ref07_SameItems_G ref07_SameItems_A fi25 25 0 [(false, .S (.C (.I .i64) (.I .i64))), (false, .S (.C (.I .i64) (.I .i64)))] (.data true [(false, .B)])
noncomputable def ref07_SameItems_E : Entry := ⟨25, [(false, .S (.C (.I .i64) (.I .i64))), (false, .S (.C (.I .i64) (.I .i64)))], .data true [(false, .B)], ref07_SameItems, 1⟩
def ref07_Triples_A : AnnK := [(30, ⟨[⟨false, 4, 0, [1], ⟨[(3, false, [.m (.C (.I .i64) (.C (.I .i64) (.I .i64)))]), (4, false, [.d true (.I .i64)])], [], []⟩, [(.exit 0, ⟨[(3, false, [.m (.C (.I .i64) (.C (.I .i64) (.I .i64)))])], [], []⟩)]⟩, ⟨false, 7, 0, [1, 4], ⟨[(3, false, [.m (.C (.I .i64) (.C (.I .i64) (.I .i64)))]), (5, false, [.d true (.I .i64)])], [], []⟩, [(.exit 2, ⟨[(3, false, [.m (.C (.I .i64) (.C (.I .i64) (.I .i64)))])], [], []⟩)]⟩], [(9, ⟨[[], [], [], [], [], [], [], [], [], [], [], [], [], [], [.sl 3 0], []], [(false, []), (false, []), (false, []), (false, []), (false, []), (false, []), (false, []), (false, []), (false, []), (false, []), (false, []), (false, []), (false, []), (true, []), (true, []), (false, [])]⟩)]⟩)]
noncomputable def ref07_Triples_G : KG := ⟨TT, EQS, [ref07_Sure_E], []⟩
noncomputable def ref07_Triples : vals [(true, .C (.I .i64) (.C (.I .i64) (.C (.S (.I .i64)) (.C (.S (.I .i64)) (.S (.I .i64))))))] → Option (OutK.val (.mown (.C (.I .i64) (.C (.I .i64) (.I .i64))))) := funK ref07_Triples_G ref07_Triples_A fi30 30 0 [(true, .C (.I .i64) (.C (.I .i64) (.C (.S (.I .i64)) (.C (.S (.I .i64)) (.S (.I .i64))))))] (.mown (.C (.I .i64) (.C (.I .i64) (.I .i64))))
noncomputable def ref07_Triples_E : Entry := ⟨30, [(true, .C (.I .i64) (.C (.I .i64) (.C (.S (.I .i64)) (.C (.S (.I .i64)) (.S (.I .i64))))))], .mown (.C (.I .i64) (.C (.I .i64) (.I .i64))), ref07_Triples, 9⟩
def ref06_SameTriples_A : AnnK := [(28, ⟨[⟨false, 4, 0, [0, 1], ⟨[(5, false, [.d true (.I .i64)])], [], []⟩, [(.exit 0, ⟨[], [], []⟩), (.ret, ⟨[(4, false, [.d true .B])], [], []⟩)]⟩], []⟩)]
noncomputable def ref06_SameTriples_G : KG := ⟨TT, EQS, [], []⟩
noncomputable def ref06_SameTriples : vals [(false, .S (.C (.I .i64) (.C (.I .i64) (.I .i64)))), (false, .S (.C (.I .i64) (.C (.I .i64) (.I .i64))))] → Option (OutK.val (.data true [(false, .B)])) := funK ref06_SameTriples_G ref06_SameTriples_A fi28 28 0 [(false, .S (.C (.I .i64) (.C (.I .i64) (.I .i64)))), (false, .S (.C (.I .i64) (.C (.I .i64) (.I .i64))))] (.data true [(false, .B)])
noncomputable def ref06_SameTriples_E : Entry := ⟨28, [(false, .S (.C (.I .i64) (.C (.I .i64) (.I .i64)))), (false, .S (.C (.I .i64) (.C (.I .i64) (.I .i64))))], .data true [(false, .B)], ref06_SameTriples, 1⟩
def ref07_Turn_A : AnnK := [(32, ⟨[⟨false, 5, 0, [1, 2, 3], ⟨[(4, false, [.m (.C (.I .i64) (.C (.I .i64) (.I .i64)))]), (5, false, [.d true (.I .i64)])], [], []⟩, [(.exit 0, ⟨[(4, false, [.m (.C (.I .i64) (.C (.I .i64) (.I .i64)))])], [], []⟩)]⟩, ⟨false, 8, 0, [1, 2, 3, 5], ⟨[(4, false, [.m (.C (.I .i64) (.C (.I .i64) (.I .i64)))]), (6, false, [.d true (.I .i64)])], [], []⟩, [(.exit 2, ⟨[(4, false, [.m (.C (.I .i64) (.C (.I .i64) (.I .i64)))])], [], []⟩)]⟩], [(11, ⟨[[], [], [], [], [], [], [], [], [], [], [], [], [], [], [.sl 4 0], []], [(false, []), (false, []), (false, []), (false, []), (false, []), (false, []), (false, []), (false, []), (false, []), (false, []), (false, []), (false, []), (false, []), (true, []), (true, []), (false, [])]⟩)]⟩)]
noncomputable def ref07_Turn_G : KG := ⟨TT, EQS, [ref07_Triples_E, ref07_built_E, ref07_Sure_E], []⟩
noncomputable def ref07_Turn : vals [(true, .C (.I .i64) (.C (.I .i64) (.C (.S (.I .i64)) (.C (.S (.I .i64)) (.S (.I .i64))))))] → Option (OutK.val (.data true [(true, .C (.I .i64) (.C (.I .i64) (.C (.S (.I .i64)) (.C (.S (.I .i64)) (.S (.I .i64))))))])) := funK ref07_Turn_G ref07_Turn_A fi32 32 0 [(true, .C (.I .i64) (.C (.I .i64) (.C (.S (.I .i64)) (.C (.S (.I .i64)) (.S (.I .i64))))))] (.data true [(true, .C (.I .i64) (.C (.I .i64) (.C (.S (.I .i64)) (.C (.S (.I .i64)) (.S (.I .i64))))))])
noncomputable def ref07_Turn_E : Entry := ⟨32, [(true, .C (.I .i64) (.C (.I .i64) (.C (.S (.I .i64)) (.C (.S (.I .i64)) (.S (.I .i64))))))], .data true [(true, .C (.I .i64) (.C (.I .i64) (.C (.S (.I .i64)) (.C (.S (.I .i64)) (.S (.I .i64))))))], ref07_Turn, 10⟩
def ref07_Cut_A : AnnK := [(34, ⟨[⟨false, 7, 0, [6, 7, 8, 9, 10, 11], ⟨[(12, false, [.m (.C (.I .i64) (.C (.I .i64) (.I .i64)))]), (13, false, [.d true (.I .i64)])], [], []⟩, [(.exit 0, ⟨[(12, false, [.m (.C (.I .i64) (.C (.I .i64) (.I .i64)))])], [], []⟩)]⟩, ⟨true, 12, 5, [6, 7, 8, 9, 10, 12, 15], ⟨[(14, false, [.d true (.I .i64)])], [], []⟩, [(.normal, ⟨[(14, false, [.d true (.I .i64)])], [], []⟩)]⟩, ⟨true, 14, 5, [6, 8, 10, 12, 14], ⟨[(15, false, [.d true (.I .i64)])], [], []⟩, [(.normal, ⟨[(15, false, [.d true (.I .i64)])], [], []⟩)]⟩, ⟨true, 16, 5, [6, 14, 15], ⟨[(12, false, [.m (.C (.I .i64) (.C (.I .i64) (.I .i64)))])], [], []⟩, [(.normal, ⟨[(12, false, [.m (.C (.I .i64) (.C (.I .i64) (.I .i64)))])], [], []⟩)]⟩], [(10, ⟨[[], [], [], [], [], [], [], [], [], [], [], [], [], [], [], [], [], [], [], [], [], [], [.sl 12 0], []], [(false, []), (false, []), (false, []), (false, []), (false, []), (false, []), (false, []), (false, []), (false, []), (false, []), (false, []), (false, []), (false, []), (false, []), (false, []), (false, []), (false, []), (false, []), (false, []), (false, []), (false, []), (true, []), (true, []), (false, [])]⟩)]⟩)]
noncomputable def ref07_Cut_G : KG := ⟨TT, EQS, [ref07_Triples_E, ref07_built_E, ref07_Sure_E], []⟩
noncomputable def ref07_Cut : vals [(true, .C (.I .i64) (.C (.I .i64) (.C (.S (.I .i64)) (.C (.S (.I .i64)) (.S (.I .i64)))))), (true, .C (.I .i64) (.I .i64)), (true, .C (.I .i64) (.I .i64))] → Option (OutK.val (.data true [(true, .C (.I .i64) (.C (.I .i64) (.C (.S (.I .i64)) (.C (.S (.I .i64)) (.S (.I .i64))))))])) := funK ref07_Cut_G ref07_Cut_A fi34 34 0 [(true, .C (.I .i64) (.C (.I .i64) (.C (.S (.I .i64)) (.C (.S (.I .i64)) (.S (.I .i64)))))), (true, .C (.I .i64) (.I .i64)), (true, .C (.I .i64) (.I .i64))] (.data true [(true, .C (.I .i64) (.C (.I .i64) (.C (.S (.I .i64)) (.C (.S (.I .i64)) (.S (.I .i64))))))])
noncomputable def ref07_Cut_E : Entry := ⟨34, [(true, .C (.I .i64) (.C (.I .i64) (.C (.S (.I .i64)) (.C (.S (.I .i64)) (.S (.I .i64)))))), (true, .C (.I .i64) (.I .i64)), (true, .C (.I .i64) (.I .i64))], .data true [(true, .C (.I .i64) (.C (.I .i64) (.C (.S (.I .i64)) (.C (.S (.I .i64)) (.S (.I .i64))))))], ref07_Cut, 10⟩
end K
end Ev
end Go.Proofs.Ytlkcneneagifoaa
end
section
namespace Go.Proofs.Ytlkcneneagifoaa
namespace Ev
namespace K
open Go Go.RowKit
set_option linter.unusedVariables false
set_option linter.unusedSimpArgs false
set_option maxRecDepth 100000
set_option maxHeartbeats 1000000
theorem csr_Row_Gok : GOk csr_Row_G E1 8 := gok E1_ok TT_ok EQS_ok ⟨⟨by decide, csr_row_ok⟩, ⟨⟨by decide, csr_sure_ok⟩, trivial⟩⟩ trivial
theorem csr_Row_ok : EntryOk E1 csr_Row_E := mkE_ok csr_Row_Gok (by kernel_rfl) fn26 (by kernel_rfl) rfl
theorem ref03_SameInts_Gok : GOk ref03_SameInts_G E1 0 := gok E1_ok TT_ok EQS_ok trivial trivial
theorem ref03_SameInts_ok : EntryOk E1 ref03_SameInts_E := mkE_ok ref03_SameInts_Gok (by kernel_rfl) fn68 (by kernel_rfl) rfl
theorem ref07_SameVals_Gok : GOk ref07_SameVals_G E1 0 := gok E1_ok TT_ok EQS_ok trivial trivial
theorem ref07_SameVals_ok : EntryOk E1 ref07_SameVals_E := mkE_ok ref07_SameVals_Gok (by kernel_rfl) fn69 (by kernel_rfl) rfl
theorem ref07_Same_Gok : GOk ref07_Same_G E1 1 := gok E1_ok TT_ok EQS_ok ⟨⟨by decide, ref03_SameInts_ok⟩, ⟨⟨by decide, ref07_SameVals_ok⟩, trivial⟩⟩ trivial
theorem ref07_Same_ok : EntryOk E1 ref07_Same_E := mkE_ok ref07_Same_Gok (by kernel_rfl) fn18 (by kernel_rfl) rfl
theorem ref07_Right_Gok : GOk ref07_Right_G E1 0 := gok E1_ok TT_ok EQS_ok trivial trivial
theorem ref07_Right_ok : EntryOk E1 ref07_Right_E := mkE_ok ref07_Right_Gok (by kernel_rfl) fn22 (by kernel_rfl) rfl
theorem ref07_Sure_Gok : GOk ref07_Sure_G E1 1 := gok E1_ok TT_ok EQS_ok ⟨⟨by decide, ref07_Right_ok⟩, trivial⟩ ⟨⟨fn81, rfl⟩, trivial⟩
theorem ref07_Sure_ok : EntryOk E1 ref07_Sure_E := mkE_ok ref07_Sure_Gok (by kernel_rfl) fn74 (by kernel_rfl) rfl
theorem ref07_Row_Gok : GOk ref07_Row_G E1 8 := gok E1_ok TT_ok EQS_ok ⟨⟨by decide, ref07_Sure_ok⟩, trivial⟩ trivial
theorem ref07_Row_ok : EntryOk E1 ref07_Row_E := mkE_ok ref07_Row_Gok (by kernel_rfl) fn27 (by kernel_rfl) rfl
theorem ref07_Get_Gok : GOk ref07_Get_G E1 9 := gok E1_ok TT_ok EQS_ok ⟨⟨by decide, ref07_Row_ok⟩, trivial⟩ trivial
theorem ref07_Get_ok : EntryOk E1 ref07_Get_E := mkE_ok ref07_Get_Gok (by kernel_rfl) fn20 (by kernel_rfl) rfl
theorem ref07_Count_Gok : GOk ref07_Count_G E1 8 := gok E1_ok TT_ok EQS_ok ⟨⟨by decide, ref07_Sure_ok⟩, trivial⟩ trivial
theorem ref07_Count_ok : EntryOk E1 ref07_Count_E := mkE_ok ref07_Count_Gok (by kernel_rfl) fn24 (by kernel_rfl) rfl
theorem ref07_SameItems_Gok : GOk ref07_SameItems_G E1 0 := gok E1_ok TT_ok EQS_ok trivial trivial
theorem ref07_SameItems_ok : EntryOk E1 ref07_SameItems_E := mkE_ok ref07_SameItems_Gok (by kernel_rfl) fn25 (by kernel_rfl) rfl
theorem ref07_Triples_Gok : GOk ref07_Triples_G E1 8 := gok E1_ok TT_ok EQS_ok ⟨⟨by decide, ref07_Sure_ok⟩, trivial⟩ trivial
theorem ref07_Triples_ok : EntryOk E1 ref07_Triples_E := mkE_ok ref07_Triples_Gok (by kernel_rfl) fn30 (by kernel_rfl) rfl
theorem ref06_SameTriples_Gok : GOk ref06_SameTriples_G E1 0 := gok E1_ok TT_ok EQS_ok trivial trivial
theorem ref06_SameTriples_ok : EntryOk E1 ref06_SameTriples_E := mkE_ok ref06_SameTriples_Gok (by kernel_rfl) fn28 (by kernel_rfl) rfl
theorem ref07_Turn_Gok : GOk ref07_Turn_G E1 9 := gok E1_ok TT_ok EQS_ok ⟨⟨by decide, ref07_Triples_ok⟩, ⟨⟨by decide, ref07_built_ok⟩, ⟨⟨by decide, ref07_Sure_ok⟩, trivial⟩⟩⟩ trivial
theorem ref07_Turn_ok : EntryOk E1 ref07_Turn_E := mkE_ok ref07_Turn_Gok (by kernel_rfl) fn32 (by kernel_rfl) rfl
theorem ref07_Cut_Gok : GOk ref07_Cut_G E1 9 := gok E1_ok TT_ok EQS_ok ⟨⟨by decide, ref07_Triples_ok⟩, ⟨⟨by decide, ref07_built_ok⟩, ⟨⟨by decide, ref07_Sure_ok⟩, trivial⟩⟩⟩ trivial
theorem ref07_Cut_ok : EntryOk E1 ref07_Cut_E := mkE_ok ref07_Cut_Gok (by kernel_rfl) fn34 (by kernel_rfl) rfl
end K
end Ev
end Go.Proofs.Ytlkcneneagifoaa
end
section
namespace Go.Proofs.Ytlkcneneagifoaa
namespace Ev
open Go Go.RowKit
noncomputable def csr_Row (x : Int × Int × Sl (Int) × Sl (Int) × Sl (Int)) (y : Int) : Option (List (Int × Int)) := K.csr_Row (x, y)
noncomputable def ref03_SameInts (x : Sl (Int)) (y : Sl (Int)) : Option (Bool) := K.ref03_SameInts (x, y)
noncomputable def ref07_SameVals (x : Sl (Int)) (y : Sl (Int)) : Option (Bool) := K.ref07_SameVals (x, y)
noncomputable def ref07_Same (x : Int × Int × Sl (Int) × Sl (Int) × Sl (Int)) (y : Int × Int × Sl (Int) × Sl (Int) × Sl (Int)) : Option (Bool) := K.ref07_Same (x, y)
noncomputable def ref07_Right (x : Int × Int × Sl (Int) × Sl (Int) × Sl (Int)) : Option (Bool) := K.ref07_Right x
noncomputable def ref07_Sure (x : Int × Int × Sl (Int) × Sl (Int) × Sl (Int)) : Option (Int × Int × Sl (Int) × Sl (Int) × Sl (Int)) := K.ref07_Sure x
noncomputable def ref07_Row (x : Int × Int × Sl (Int) × Sl (Int) × Sl (Int)) (y : Int) : Option (List (Int × Int)) := K.ref07_Row (x, y)
noncomputable def ref07_Get (x : Int × Int × Sl (Int) × Sl (Int) × Sl (Int)) (y : Int) (z : Int) : Option (Int × Bool) := K.ref07_Get (x, y, z)
noncomputable def ref07_Count (x : Int × Int × Sl (Int) × Sl (Int) × Sl (Int)) : Option (Int) := K.ref07_Count x
noncomputable def ref07_SameItems (x : Sl (Int × Int)) (y : Sl (Int × Int)) : Option (Bool) := K.ref07_SameItems (x, y)
noncomputable def ref07_Triples (x : Int × Int × Sl (Int) × Sl (Int) × Sl (Int)) : Option (List (Int × Int × Int)) := K.ref07_Triples x
noncomputable def ref06_SameTriples (x : Sl (Int × Int × Int)) (y : Sl (Int × Int × Int)) : Option (Bool) := K.ref06_SameTriples (x, y)
noncomputable def ref07_Turn (x : Int × Int × Sl (Int) × Sl (Int) × Sl (Int)) : Option (Int × Int × Sl (Int) × Sl (Int) × Sl (Int)) := K.ref07_Turn x
noncomputable def ref07_Cut (x : Int × Int × Sl (Int) × Sl (Int) × Sl (Int)) (y : Int × Int) (z : Int × Int) : Option (Int × Int × Sl (Int) × Sl (Int) × Sl (Int)) := K.ref07_Cut (x, y, z)
end Ev
end Go.Proofs.Ytlkcneneagifoaa
end
section
namespace Go.Proofs.Ytlkcneneagifoaa
namespace Ev
open Go Go.RowKit
set_option linter.unusedVariables false
set_option maxRecDepth 100000
set_option maxHeartbeats 1000000
noncomputable def csr_Row_b1 (out : Sl Int ×
 Sl Int) : Int × List (Int × Int) → Option (Int × List (Int × Int) ⊕ List (Int × Int) ⊕ Empty) :=
 fun (x : Int × List (Int × Int)) =>
 if x.fst < (↑out.fst.l.length : Int) then
  (atS 1 out.fst x.fst).bind fun (y : Int) =>
   (atS 1 out.snd x.fst).bind fun (y_1 : Int) =>
    (atL x.snd x.fst).bind fun (x_1 : Int × Int) =>
     (atL x.snd x.fst).bind fun (y_2 : Int × Int) =>
      some (Sum.inl (IntKind.i64.wrap (x.fst + 1), List.set x.snd (Int.toNat x.fst) (y, y_1)))
 else some (Sum.inr (Sum.inl x.snd))
theorem csr_Row_eq (x : Int × Int × Sl Int × Sl Int × Sl Int) (y : Int) : csr_Row x y =
 (csr_sure x).bind fun (out : Int × Int × Sl Int × Sl Int × Sl Int) =>
 (csr_row out y).bind fun (out : Sl Int × Sl Int) =>
  (capOk (↑out.fst.l.length : Int) (↑out.fst.l.length : Int)).bind fun (x : PUnit) =>
   (lenOk (↑out.fst.l.length : Int)).bind fun (x : PUnit) =>
    (loopO (csr_Row_b1 out) (0, List.replicate (↑out.fst.l.length : Int).toNat (0, 0))).bind
     fun (y : List (Int × Int) ⊕ Empty) =>
     Sum.elim (fun (val : List (Int × Int)) => some val) (fun (val : Empty) => nE val) y := by kernel_rfl
noncomputable def ref03_SameInts_b1 (x : Sl Int) (y : Sl Int) : Int → Option (Int ⊕ PUnit ⊕ Bool ⊕ Empty) :=
 fun (x_1 : Int) =>
 if x_1 < (↑x.l.length : Int) then
  (atS 1 x x_1).bind fun (y_1 : Int) =>
   (atS 1 y x_1).bind fun (y : Int) =>
    if y_1 ≠ y then some (Sum.inr (Sum.inr (Sum.inl false))) else some (Sum.inl (IntKind.i64.wrap (x_1 + 1)))
 else some (Sum.inr (Sum.inl ()))
theorem ref03_SameInts_eq (x : Sl Int) (y : Sl Int) : ref03_SameInts x y =
 if (↑x.l.length : Int) ≠ (↑y.l.length : Int) then some false
else
 (loopO (ref03_SameInts_b1 x y) 0).bind fun (y : PUnit ⊕ Bool ⊕ Empty) =>
  Sum.elim (fun (val : PUnit) => some true)
   (fun (val : Bool ⊕ Empty) => Sum.elim (fun (val : Bool) => some val) (fun (val : Empty) => nE val) val)
   y := by kernel_rfl
noncomputable def ref07_SameVals_b1 (x : Sl Int) (y : Sl Int) : Int → Option (Int ⊕ PUnit ⊕ Bool ⊕ Empty) :=
 fun (x_1 : Int) =>
 if x_1 < (↑x.l.length : Int) then
  (atS 1 x x_1).bind fun (y_1 : Int) =>
   (atS 1 y x_1).bind fun (y : Int) =>
    if y_1 ≠ y then some (Sum.inr (Sum.inr (Sum.inl false))) else some (Sum.inl (IntKind.i64.wrap (x_1 + 1)))
 else some (Sum.inr (Sum.inl ()))
theorem ref07_SameVals_eq (x : Sl Int) (y : Sl Int) : ref07_SameVals x y =
 if (↑x.l.length : Int) ≠ (↑y.l.length : Int) then some false
else
 (loopO (ref07_SameVals_b1 x y) 0).bind fun (y : PUnit ⊕ Bool ⊕ Empty) =>
  Sum.elim (fun (val : PUnit) => some true)
   (fun (val : Bool ⊕ Empty) => Sum.elim (fun (val : Bool) => some val) (fun (val : Empty) => nE val) val)
   y := by kernel_rfl
theorem ref07_Same_eq (x : Int ×
 Int × Sl Int × Sl Int × Sl Int) (y : Int × Int × Sl Int × Sl Int × Sl Int) : ref07_Same x y =
 if x.fst = y.fst then
 if x.snd.fst = y.snd.fst then
  (ref03_SameInts x.snd.snd.fst y.snd.snd.fst).bind fun (out : Bool) =>
   if out = true then
    (ref03_SameInts x.snd.snd.snd.fst y.snd.snd.snd.fst).bind fun (out : Bool) =>
     if out = true then
      (ref07_SameVals x.snd.snd.snd.snd y.snd.snd.snd.snd).bind fun (out : Bool) => some (decide (out = true))
     else some false
   else some false
 else some false
else some false := by kernel_rfl
noncomputable def ref07_Right_b1 (x : Int ×
 Int × Sl Int × Sl Int × Sl Int) (x'2 : Int) : Int → Option (Int ⊕ PUnit ⊕ Bool ⊕ Empty) :=
 fun (x_1 : Int) =>
 (atS 1 x.snd.snd.fst (IntKind.i64.wrap (x'2 + 1))).bind fun (y : Int) =>
  if x_1 < y then
   (atS 1 x.snd.snd.snd.fst x_1).bind fun (y : Int) =>
    if y < 0 then some (Sum.inr (Sum.inr (Sum.inl false)))
    else
     (atS 1 x.snd.snd.snd.fst x_1).bind fun (y : Int) =>
      if y ≥ x.snd.fst then some (Sum.inr (Sum.inr (Sum.inl false)))
      else
       (atS 1 x.snd.snd.fst x'2).bind fun (y : Int) =>
        if x_1 > y then
         (atS 1 x.snd.snd.snd.fst x_1).bind fun (y : Int) =>
          (atS 1 x.snd.snd.snd.fst (IntKind.i64.wrap (x_1 - 1))).bind fun (y_1 : Int) =>
           if y ≤ y_1 then some (Sum.inr (Sum.inr (Sum.inl false)))
           else some (Sum.inl (IntKind.i64.wrap (x_1 + 1)))
        else some (Sum.inl (IntKind.i64.wrap (x_1 + 1)))
  else some (Sum.inr (Sum.inl ()))
noncomputable def ref07_Right_b2 (x : Int ×
 Int × Sl Int × Sl Int × Sl Int) : Int → Option (Int ⊕ PUnit ⊕ Bool ⊕ Empty) :=
 fun (x_1 : Int) =>
 if x_1 < x.fst then
  (atS 1 x.snd.snd.fst x_1).bind fun (y : Int) =>
   (atS 1 x.snd.snd.fst (IntKind.i64.wrap (x_1 + 1))).bind fun (y_1 : Int) =>
    if y > y_1 then some (Sum.inr (Sum.inr (Sum.inl false)))
    else
     (atS 1 x.snd.snd.fst x_1).bind fun (y : Int) =>
      if y < 0 then some (Sum.inr (Sum.inr (Sum.inl false)))
      else
       (atS 1 x.snd.snd.fst (IntKind.i64.wrap (x_1 + 1))).bind fun (y : Int) =>
        if y > (↑x.snd.snd.snd.fst.l.length : Int) then some (Sum.inr (Sum.inr (Sum.inl false)))
        else
         (atS 1 x.snd.snd.fst x_1).bind fun (y : Int) =>
          (loopO (ref07_Right_b1 x x_1) y).bind fun (y : PUnit ⊕ Bool ⊕ Empty) =>
           Sum.elim (fun (val : PUnit) => some (Sum.inl (IntKind.i64.wrap (x_1 + 1))))
            (fun (val : Bool ⊕ Empty) =>
             Sum.elim (fun (val : Bool) => some (Sum.inr (Sum.inr (Sum.inl val))))
              (fun (val : Empty) => nE val) val)
            y
 else some (Sum.inr (Sum.inl ()))
theorem ref07_Right_eq (x : Int × Int × Sl Int × Sl Int × Sl Int) : ref07_Right x =
 if x.fst < 0 then some false
else
 if x.fst > 4096 then some false
 else
  if x.snd.fst < 0 then some false
  else
   if x.snd.fst > 4096 then some false
   else
    if (↑x.snd.snd.fst.l.length : Int) ≠ IntKind.i64.wrap (x.fst + 1) then some false
    else
     if (↑x.snd.snd.snd.fst.l.length : Int) ≠ (↑x.snd.snd.snd.snd.l.length : Int) then some false
     else
      if (↑x.snd.snd.snd.fst.l.length : Int) > 65536 then some false
      else
       (atS 1 x.snd.snd.fst 0).bind fun (y : Int) =>
        if y ≠ 0 then some false
        else
         (atS 1 x.snd.snd.fst x.fst).bind fun (y : Int) =>
          if y ≠ (↑x.snd.snd.snd.fst.l.length : Int) then some false
          else
           (loopO (ref07_Right_b2 x) 0).bind fun (y : PUnit ⊕ Bool ⊕ Empty) =>
            Sum.elim (fun (val : PUnit) => some true)
             (fun (val : Bool ⊕ Empty) =>
              Sum.elim (fun (val : Bool) => some val) (fun (val : Empty) => nE val) val)
             y := by kernel_rfl
theorem ref07_Sure_eq (x : Int × Int × Sl Int × Sl Int × Sl Int) : ref07_Sure x =
 (ref07_Right x).bind fun (out : Bool) =>
 if out = true then some x
 else
  (capOk (IntKind.i64.wrap (0 + 1)) (IntKind.i64.wrap (0 + 1))).bind fun (x : PUnit) =>
   (lenOk (IntKind.i64.wrap (0 + 1))).bind fun (x : PUnit) =>
    some
     (0, 0, { nn := true, sz := 1, l := List.replicate (IntKind.i64.wrap (0 + 1)).toNat 0 },
      { nn := false, sz := 0, l := [] }, { nn := false, sz := 0, l := [] }) := by kernel_rfl
noncomputable def ref07_Row_b1 (y : Int) (out : Int ×
 Int ×
  Sl Int × Sl Int × Sl Int) : List (Int × Int) × Int → Option (List (Int × Int) × Int ⊕ List (Int × Int) ⊕ Empty) :=
 fun (x : List (Int × Int) × Int) =>
 (atS 1 out.snd.snd.fst (IntKind.i64.wrap (y + 1))).bind fun (y : Int) =>
  if x.snd < y then
   (atS 1 out.snd.snd.snd.fst x.snd).bind fun (y : Int) =>
    (atS 1 out.snd.snd.snd.snd x.snd).bind fun (y_1 : Int) =>
     (app x.fst [(y, y_1)]).bind fun (lm : List (Int × Int)) => some (Sum.inl (lm, IntKind.i64.wrap (x.snd + 1)))
  else some (Sum.inr (Sum.inl x.fst))
theorem ref07_Row_eq (x : Int × Int × Sl Int × Sl Int × Sl Int) (y : Int) : ref07_Row x y =
 (ref07_Sure x).bind fun (out : Int × Int × Sl Int × Sl Int × Sl Int) =>
 if y < 0 then some []
 else
  if y ≥ out.fst then some []
  else
   (atS 1 out.snd.snd.fst y).bind fun (y_1 : Int) =>
    (loopO (ref07_Row_b1 y out) ([], y_1)).bind fun (y : List (Int × Int) ⊕ Empty) =>
     Sum.elim (fun (val : List (Int × Int)) => some val) (fun (val : Empty) => nE val) y := by kernel_rfl
noncomputable def ref07_Get_b1 (z : Int) (out : List (Int × Int)) : Int → Option (Int ⊕ PUnit ⊕ Int × Bool ⊕ Empty) :=
 fun (x : Int) =>
 if x < (↑out.length : Int) then
  (atL out x).bind fun (x_1 : Int × Int) =>
   (atL out x).bind fun (y : Int × Int) =>
    if y.fst = z then
     (atL out x).bind fun (x_2 : Int × Int) =>
      (atL out x).bind fun (y : Int × Int) => some (Sum.inr (Sum.inr (Sum.inl (y.snd, true))))
    else some (Sum.inl (IntKind.i64.wrap (x + 1)))
 else some (Sum.inr (Sum.inl ()))
theorem ref07_Get_eq (x : Int × Int × Sl Int × Sl Int × Sl Int) (y : Int) (z : Int) : ref07_Get x y z =
 (ref07_Row x y).bind fun (out : List (Int × Int)) =>
 (loopO (ref07_Get_b1 z out) 0).bind fun (y : PUnit ⊕ Int × Bool ⊕ Empty) =>
  Sum.elim (fun (val : PUnit) => some (0, false))
   (fun (val : Int × Bool ⊕ Empty) =>
    Sum.elim (fun (val : Int × Bool) => some val) (fun (val : Empty) => nE val) val)
   y := by kernel_rfl
theorem ref07_Count_eq (x : Int × Int × Sl Int × Sl Int × Sl Int) : ref07_Count x =
 (ref07_Sure x).bind fun (out : Int × Int × Sl Int × Sl Int × Sl Int) =>
 some (↑out.snd.snd.snd.fst.l.length : Int) := by kernel_rfl
noncomputable def ref07_SameItems_b1 (x : Sl
 (Int × Int)) (y : Sl (Int × Int)) : Int → Option (Int ⊕ PUnit ⊕ Bool ⊕ Empty) :=
 fun (x_1 : Int) =>
 if x_1 < (↑x.l.length : Int) then
  (atS 2 x x_1).bind fun (y_1 : Int × Int) =>
   (atS 2 y x_1).bind fun (y : Int × Int) =>
    if ¬(y_1.fst = y.fst ∧ y_1.snd = y.snd) then some (Sum.inr (Sum.inr (Sum.inl false)))
    else some (Sum.inl (IntKind.i64.wrap (x_1 + 1)))
 else some (Sum.inr (Sum.inl ()))
theorem ref07_SameItems_eq (x : Sl (Int × Int)) (y : Sl (Int × Int)) : ref07_SameItems x y =
 if (↑x.l.length : Int) ≠ (↑y.l.length : Int) then some false
else
 (loopO (ref07_SameItems_b1 x y) 0).bind fun (y : PUnit ⊕ Bool ⊕ Empty) =>
  Sum.elim (fun (val : PUnit) => some true)
   (fun (val : Bool ⊕ Empty) => Sum.elim (fun (val : Bool) => some val) (fun (val : Empty) => nE val) val)
   y := by kernel_rfl
noncomputable def ref07_Triples_b1 (out : Int ×
 Int ×
  Sl Int ×
   Sl Int ×
    Sl
     Int) (x : List (Int × Int × Int) ×
 Int) : List (Int × Int × Int) × Int → Option (List (Int × Int × Int) × Int ⊕ List (Int × Int × Int) ⊕ Empty) :=
 fun (x_1 : List (Int × Int × Int) × Int) =>
 (atS 1 out.snd.snd.fst (IntKind.i64.wrap (x.snd + 1))).bind fun (y : Int) =>
  if x_1.snd < y then
   (atS 1 out.snd.snd.snd.fst x_1.snd).bind fun (y : Int) =>
    (atS 1 out.snd.snd.snd.snd x_1.snd).bind fun (y_1 : Int) =>
     (app x_1.fst [(x.snd, y, y_1)]).bind fun (lm : List (Int × Int × Int)) =>
      some (Sum.inl (lm, IntKind.i64.wrap (x_1.snd + 1)))
  else some (Sum.inr (Sum.inl x_1.fst))
noncomputable def ref07_Triples_b2 (out : Int ×
 Int ×
  Sl Int ×
   Sl Int ×
    Sl
     Int) : List (Int × Int × Int) × Int →
 Option (List (Int × Int × Int) × Int ⊕ List (Int × Int × Int) ⊕ Empty) :=
 fun (x : List (Int × Int × Int) × Int) =>
 if x.snd < out.fst then
  (atS 1 out.snd.snd.fst x.snd).bind fun (y : Int) =>
   (loopO (ref07_Triples_b1 out x) (x.fst, y)).bind fun (y : List (Int × Int × Int) ⊕ Empty) =>
    Sum.elim (fun (val : List (Int × Int × Int)) => some (Sum.inl (val, IntKind.i64.wrap (x.snd + 1))))
     (fun (val : Empty) => nE val) y
 else some (Sum.inr (Sum.inl x.fst))
theorem ref07_Triples_eq (x : Int × Int × Sl Int × Sl Int × Sl Int) : ref07_Triples x =
 (ref07_Sure x).bind fun (out : Int × Int × Sl Int × Sl Int × Sl Int) =>
 (loopO (ref07_Triples_b2 out) ([], 0)).bind fun (y : List (Int × Int × Int) ⊕ Empty) =>
  Sum.elim (fun (val : List (Int × Int × Int)) => some val) (fun (val : Empty) => nE val) y := by kernel_rfl
noncomputable def ref06_SameTriples_b1 (x : Sl
 (Int × Int × Int)) (y : Sl (Int × Int × Int)) : Int → Option (Int ⊕ PUnit ⊕ Bool ⊕ Empty) :=
 fun (x_1 : Int) =>
 if x_1 < (↑x.l.length : Int) then
  (atS 3 x x_1).bind fun (y_1 : Int × Int × Int) =>
   (atS 3 y x_1).bind fun (y : Int × Int × Int) =>
    if ¬(y_1.fst = y.fst ∧ y_1.snd.fst = y.snd.fst ∧ y_1.snd.snd = y.snd.snd) then
     some (Sum.inr (Sum.inr (Sum.inl false)))
    else some (Sum.inl (IntKind.i64.wrap (x_1 + 1)))
 else some (Sum.inr (Sum.inl ()))
theorem ref06_SameTriples_eq (x : Sl (Int × Int × Int)) (y : Sl (Int × Int × Int)) : ref06_SameTriples x y =
 if (↑x.l.length : Int) ≠ (↑y.l.length : Int) then some false
else
 (loopO (ref06_SameTriples_b1 x y) 0).bind fun (y : PUnit ⊕ Bool ⊕ Empty) =>
  Sum.elim (fun (val : PUnit) => some true)
   (fun (val : Bool ⊕ Empty) => Sum.elim (fun (val : Bool) => some val) (fun (val : Empty) => nE val) val)
   y := by kernel_rfl
noncomputable def ref07_Turn_b1 (out : List
 (Int ×
  Int ×
   Int)) (x : List (Int × Int × Int) ×
 Int) : List (Int × Int × Int) × Int → Option (List (Int × Int × Int) × Int ⊕ List (Int × Int × Int) ⊕ Empty) :=
 fun (x_1 : List (Int × Int × Int) × Int) =>
 if x_1.snd < (↑out.length : Int) then
  (atL out x_1.snd).bind fun (x_2 : Int × Int × Int) =>
   (atL out x_1.snd).bind fun (y : Int × Int × Int) =>
    if y.snd.fst = x.snd then
     (atL out x_1.snd).bind fun (x_3 : Int × Int × Int) =>
      (atL out x_1.snd).bind fun (y : Int × Int × Int) =>
       (atL out x_1.snd).bind fun (x_4 : Int × Int × Int) =>
        (atL out x_1.snd).bind fun (y_1 : Int × Int × Int) =>
         (app x_1.fst [(x.snd, y.fst, y_1.snd.snd)]).bind fun (lm : List (Int × Int × Int)) =>
          some (Sum.inl (lm, IntKind.i64.wrap (x_1.snd + 1)))
    else some (Sum.inl (x_1.fst, IntKind.i64.wrap (x_1.snd + 1)))
 else some (Sum.inr (Sum.inl x_1.fst))
noncomputable def ref07_Turn_b2 (out : Int ×
 Int ×
  Sl Int ×
   Sl Int ×
    Sl
     Int) (out'2 : List
 (Int ×
  Int ×
   Int)) : List (Int × Int × Int) × Int → Option (List (Int × Int × Int) × Int ⊕ List (Int × Int × Int) ⊕ Empty) :=
 fun (x : List (Int × Int × Int) × Int) =>
 if x.snd < out.snd.fst then
  (loopO (ref07_Turn_b1 out'2 x) (x.fst, 0)).bind fun (y : List (Int × Int × Int) ⊕ Empty) =>
   Sum.elim (fun (val : List (Int × Int × Int)) => some (Sum.inl (val, IntKind.i64.wrap (x.snd + 1))))
    (fun (val : Empty) => nE val) y
 else some (Sum.inr (Sum.inl x.fst))
theorem ref07_Turn_eq (x : Int × Int × Sl Int × Sl Int × Sl Int) : ref07_Turn x =
 (ref07_Sure x).bind fun (out : Int × Int × Sl Int × Sl Int × Sl Int) =>
 (ref07_Triples out).bind fun (out_1 : List (Int × Int × Int)) =>
  (loopO (ref07_Turn_b2 out out_1) ([], 0)).bind fun (y : List (Int × Int × Int) ⊕ Empty) =>
   Sum.elim
    (fun (val : List (Int × Int × Int)) =>
     (ref07_built out.snd.fst out.fst (mo 3 val)).bind fun (out : Int × Int × Sl Int × Sl Int × Sl Int) =>
      some out)
    (fun (val : Empty) => nE val) y := by kernel_rfl
noncomputable def ref07_Cut_b1 (y : Int ×
 Int) (z : Int ×
 Int) (out : Int ×
 Int ×
  Sl Int ×
   Sl Int ×
    Sl
     Int) (out'6 : List
 (Int ×
  Int ×
   Int)) : List (Int × Int × Int) × Int → Option (List (Int × Int × Int) × Int ⊕ List (Int × Int × Int) ⊕ Empty) :=
 fun (x : List (Int × Int × Int) × Int) =>
 if x.snd < (↑out'6.length : Int) then
  (atL out'6 x.snd).bind fun (x_1 : Int × Int × Int) =>
   (atL out'6 x.snd).bind fun (y_1 : Int × Int × Int) =>
    if y_1.fst ≥ maxI y.fst 0 then
     (atL out'6 x.snd).bind fun (x_2 : Int × Int × Int) =>
      (atL out'6 x.snd).bind fun (y_2 : Int × Int × Int) =>
       if y_2.fst < minI y.snd out.fst then
        (atL out'6 x.snd).bind fun (x_3 : Int × Int × Int) =>
         (atL out'6 x.snd).bind fun (y_3 : Int × Int × Int) =>
          if y_3.snd.fst ≥ maxI z.fst 0 then
           (atL out'6 x.snd).bind fun (x_4 : Int × Int × Int) =>
            (atL out'6 x.snd).bind fun (y_4 : Int × Int × Int) =>
             if y_4.snd.fst < minI z.snd out.snd.fst then
              (atL out'6 x.snd).bind fun (x_5 : Int × Int × Int) =>
               (atL out'6 x.snd).bind fun (y_5 : Int × Int × Int) =>
                (atL out'6 x.snd).bind fun (x_6 : Int × Int × Int) =>
                 (atL out'6 x.snd).bind fun (y_6 : Int × Int × Int) =>
                  (atL out'6 x.snd).bind fun (x_7 : Int × Int × Int) =>
                   (atL out'6 x.snd).bind fun (y_7 : Int × Int × Int) =>
                    (app x.fst
                       [(IntKind.i64.wrap (y_5.fst - maxI y.fst 0),
                         IntKind.i64.wrap (y_6.snd.fst - maxI z.fst 0), y_7.snd.snd)]).bind
                     fun (lm : List (Int × Int × Int)) =>
                     some (Sum.inl (lm, IntKind.i64.wrap (x.snd + 1)))
             else some (Sum.inl (x.fst, IntKind.i64.wrap (x.snd + 1)))
          else some (Sum.inl (x.fst, IntKind.i64.wrap (x.snd + 1)))
       else some (Sum.inl (x.fst, IntKind.i64.wrap (x.snd + 1)))
    else some (Sum.inl (x.fst, IntKind.i64.wrap (x.snd + 1)))
 else some (Sum.inr (Sum.inl x.fst))
noncomputable def ref07_Cut_j2 : Int → Option (Int ⊕ Empty) :=
 fun (d : Int) => some (Sum.inl d)
noncomputable def ref07_Cut_j3 : Int → Option (Int ⊕ Empty) :=
 fun (d : Int) => some (Sum.inl d)
theorem ref07_Cut_eq (x : Int × Int × Sl Int × Sl Int × Sl Int) (y : Int × Int) (z : Int × Int) : ref07_Cut x y z =
 (ref07_Sure x).bind fun (out : Int × Int × Sl Int × Sl Int × Sl Int) =>
 (ref07_Triples out).bind fun (out_1 : List (Int × Int × Int)) =>
  (loopO (ref07_Cut_b1 y z out out_1) ([], 0)).bind fun (y_1 : List (Int × Int × Int) ⊕ Empty) =>
   Sum.elim
    (fun (val : List (Int × Int × Int)) =>
     (if minI y.snd out.fst > maxI y.fst 0 then ref07_Cut_j2 (IntKind.i64.wrap (minI y.snd out.fst - maxI y.fst 0))
       else ref07_Cut_j2 0).bind
      fun (y : Int ⊕ Empty) =>
      Sum.elim
       (fun (val_1 : Int) =>
        (if minI z.snd out.snd.fst > maxI z.fst 0 then
           ref07_Cut_j3 (IntKind.i64.wrap (minI z.snd out.snd.fst - maxI z.fst 0))
          else ref07_Cut_j3 0).bind
         fun (y : Int ⊕ Empty) =>
         Sum.elim
          (fun (val_2 : Int) =>
           (if val_1 = 0 then some (Sum.inl [])
             else if val_2 = 0 then some (Sum.inl []) else some (Sum.inl val)).bind
            fun (y : List (Int × Int × Int) ⊕ Empty) =>
            Sum.elim
             (fun (val : List (Int × Int × Int)) =>
              (ref07_built val_1 val_2 (mo 3 val)).bind
               fun (out : Int × Int × Sl Int × Sl Int × Sl Int) => some out)
             (fun (val : Empty) => nE val) y)
          (fun (val : Empty) => nE val) y)
       (fun (val : Empty) => nE val) y)
    (fun (val : Empty) => nE val) y_1 := by kernel_rfl
end Ev
end Go.Proofs.Ytlkcneneagifoaa
end
section
namespace Go.Proofs.Ytlkcneneagifoaa
namespace Ev
open Go
set_option linter.unusedVariables false
set_option linter.unusedSimpArgs false
theorem ascI_iff {n : Int} {l : List Int} : ascI (-1) n l = true ↔ ∀ j (h : j < l.length), 0 ≤ l[j] ∧ l[j] < n ∧ (j ≠ 0 → l[j - 1]'(by omega) < l[j]) := by
 rw [ascI_iff']
 constructor
 ·rintro ⟨h1, h2⟩ j hj
  have := h2 _ (List.getElem_mem hj)
  refine ⟨by omega, this.2, fun h0 => ?_⟩
  exact List.pairwise_iff_getElem.1 h1 (j - 1) j (by omega) hj (by omega)
 ·intro h
  constructor
  ·have key : ∀ d i (hi : i + d + 1 < l.length), l[i]'(by omega) < l[i + d + 1] := by
    intro d
    induction d with
    | zero => intro i hi; have := (h (i + 1) hi).2.2 (by omega); simpa using this
    | succ d ih => intro i hi; have h1 := ih i (by omega); have h2 := (h (i + d + 1 + 1) hi).2.2 (by omega); simp only [Nat.add_sub_cancel] at h2; exact Int.lt_trans h1 h2
   rw [List.pairwise_iff_getElem]
   intro i j hi hj hij
   have := key (j - i - 1) i (by omega)
   simpa [show i + (j - i - 1) + 1 = j by omega] using this
  ·intro x hx
   obtain ⟨j, hj, rfl⟩ := List.mem_iff_getElem.1 hx
   have := h j hj
   omega
theorem cutL_get {α : Type} {l : List α} {f t : Int} (h : 0 ≤ f ∧ f ≤ t ∧ t ≤ l.length) {j : Nat} (hj : j < t.toNat - f.toNat) : (cutL l f t)[j]'(by rw [cutL_len h]; exact hj) = l[f.toNat + j]'(by omega) := by
 unfold cutL; simp
theorem row_ref {n : Nat} {nn c : Int} {s t v : Sl Int} (hs : okS 1 s) (ht : okS 1 t) (hl : s.l.length = n + 1) (tl : t.l.length ≤ 65536) {i : Nat} (hi : i < n) (hp : 0 ≤ s.l.getD i 0 ∧ s.l.getD i 0 ≤ s.l.getD (i + 1) 0 ∧ s.l.getD (i + 1) 0 ≤ (t.l.length : Int)) (hn : n ≤ 4096) :
  ∃ q, loopO (ref07_Right_b1 (nn, c, s, t, v) (i : Int)) (s.l.getD i 0) = some q ∧ ((ascI (-1) c (cutL t.l (s.l.getD i 0) (s.l.getD (i + 1) 0)) = true ∧ q = .inl ()) ∨ (ascI (-1) c (cutL t.l (s.l.getD i 0) (s.l.getD (i + 1) 0)) = false ∧ q = .inr (.inl false))) := by
 have e1 := at_get hs (j := i) (by omega)
 have e2 := at_get hs (j := i + 1) (by omega)
 rw [← getD_lt] at e1 e2
 generalize hf : s.l.getD i 0 = f at *
 generalize hg : s.l.getD (i + 1) 0 = g at *
 have hlen := cutL_len (l := t.l) hp
 have hget := fun j hj => cutL_get (l := t.l) hp (j := j) hj
 have hF : ∀ j (hj : j < (cutL t.l f g).length), ¬ (0 ≤ (cutL t.l f g)[j] ∧ (cutL t.l f g)[j] < c ∧ (j ≠ 0 → (cutL t.l f g)[j - 1]'(by omega) < (cutL t.l f g)[j])) → ascI (-1) c (cutL t.l f g) = false := fun j hj hh => by
  rw [Bool.eq_false_iff]; intro hc; exact hh (ascI_iff.1 hc j hj)
 have key := loop_up (b := ref07_Right_b1 (nn, c, s, t, v) (i : Int)) (g.toNat - f.toNat) (fun j a => a = f + (j : Int) ∧ ∀ i (h : i < (cutL t.l f g).length), i < j → 0 ≤ (cutL t.l f g)[i] ∧ (cutL t.l f g)[i] < c ∧ (i ≠ 0 → (cutL t.l f g)[i - 1]'(by omega) < (cutL t.l f g)[i])) (fun q => (ascI (-1) c (cutL t.l f g) = true ∧ q = .inl ()) ∨ (ascI (-1) c (cutL t.l f g) = false ∧ q = .inr (.inl false)))
  (by
   rintro j _ hj ⟨rfl, ha⟩
   have hk : f.toNat + j < t.l.length := by omega
   have ek := at_get ht hk
   rw [show ((f.toNat + j : Nat) : Int) = f + (j : Int) by omega] at ek
   have hcj := hget j hj
   have w1 : IntKind.i64.wrap ((i : Int) + 1) = ((i + 1 : Nat) : Int) := w_succ hi (by omega)
   simp only [ref07_Right_b1, w1, e2, e1, Option.bind_some, ek]
   rw [if_pos (by omega)]
   rw [← hcj]
   by_cases c1 : (cutL t.l f g)[j]'(by omega) < 0
   ·rw [if_pos c1]; exact .inr ⟨_, rfl, .inr ⟨hF j (by omega) (fun h => by omega), rfl⟩⟩
   rw [if_neg c1]
   by_cases c2 : (cutL t.l f g)[j]'(by omega) ≥ c
   ·rw [if_pos c2]; exact .inr ⟨_, rfl, .inr ⟨hF j (by omega) (fun h => by omega), rfl⟩⟩
   rw [if_neg c2]
   have next : (j ≠ 0 → (cutL t.l f g)[j - 1]'(by omega) < (cutL t.l f g)[j]'(by omega)) → ∀ i (h : i < (cutL t.l f g).length), i < j + 1 → 0 ≤ (cutL t.l f g)[i] ∧ (cutL t.l f g)[i] < c ∧ (i ≠ 0 → (cutL t.l f g)[i - 1]'(by omega) < (cutL t.l f g)[i]) := fun hh i h hij => by
    by_cases e : i = j
    ·subst e; exact ⟨by omega, by omega, hh⟩
    ·exact ha i h (by omega)
   have wk : IntKind.i64.wrap (f + (j : Int) + 1) = f + ((j + 1 : Nat) : Int) := by rw [wrap64 (by omega) (by omega)]; omega
   rw [wk]
   by_cases c3 : f + (j : Int) > f
   ·rw [if_pos c3, wrap64 (n := f + (j : Int) - 1) (by omega) (by omega)]
    have ep := at_get ht (j := f.toNat + (j - 1)) (by omega)
    rw [show ((f.toNat + (j - 1) : Nat) : Int) = f + (j : Int) - 1 by omega, ← hget (j - 1) (by omega)] at ep
    rw [ep]
    simp only [Option.bind_some]
    by_cases c4 : (cutL t.l f g)[j]'(by omega) ≤ (cutL t.l f g)[j - 1]'(by omega)
    ·rw [if_pos c4]; exact .inr ⟨_, rfl, .inr ⟨hF j (by omega) (fun h => by have := h.2.2 (by omega); omega), rfl⟩⟩
    ·rw [if_neg c4]; exact .inl ⟨_, rfl, rfl, next fun _ => by omega⟩
   ·rw [if_neg c3]; exact .inl ⟨_, rfl, rfl, next fun h0 => absurd h0 (by omega)⟩)
  (by
   rintro _ ⟨rfl, ha⟩
   have w1 : IntKind.i64.wrap ((i : Int) + 1) = ((i + 1 : Nat) : Int) := w_succ hi (by omega)
   simp only [ref07_Right_b1, w1, e2, Option.bind_some]
   rw [if_neg (by omega)]
   exact ⟨_, rfl, .inl ⟨ascI_iff.2 fun j hj => ha j hj (by omega), rfl⟩⟩) 0 (Nat.zero_le _) f ⟨by omega, fun i h hi => absurd hi (by omega)⟩
 exact key
theorem rows_ref {n : Nat} {c : Int} {s t v : Sl Int} (hs : okS 1 s) (ht : okS 1 t) (hn : n ≤ 4096) (hl : s.l.length = n + 1) (tl : t.l.length ≤ 65536) : ∃ q, loopO (ref07_Right_b2 ((n : Int), c, s, t, v)) 0 = some q ∧ (((List.range n).all (rowOk c s.l t.l) = true ∧ q = .inl ()) ∨ ((List.range n).all (rowOk c s.l t.l) = false ∧ q = .inr (.inl false))) := by
 refine loop_up (b := ref07_Right_b2 ((n : Int), c, s, t, v)) n (fun j a => a = (j : Int) ∧ ∀ i, i < j → rowOk c s.l t.l i = true) _ ?_ ?_ 0 (Nat.zero_le _) 0 ⟨rfl, fun i hi => absurd hi (by omega)⟩
 ·rintro j _ hj ⟨rfl, ha⟩
  have e1 := at_get hs (j := j) (by omega)
  have e2 := at_get hs (j := j + 1) (by omega)
  rw [← getD_lt] at e1 e2
  simp only [ref07_Right_b2, e1, Option.bind_some, w_succ hj (by omega)]
  rw [if_pos (by omega), e2]
  simp only [Option.bind_some]
  by_cases c1 : s.l.getD j 0 > s.l.getD (j + 1) 0
  ·rw [if_pos c1]
   exact .inr ⟨_, rfl, .inr ⟨rowOk_false hj (by unfold rowOk; rw [decide_eq_false (p := s.l.getD j 0 ≤ s.l.getD (j + 1) 0) (by omega)]; simp), rfl⟩⟩
  rw [if_neg c1]
  by_cases c0 : s.l.getD j 0 < 0
  ·rw [if_pos c0]
   exact .inr ⟨_, rfl, .inr ⟨rowOk_false hj (by unfold rowOk; rw [decide_eq_false (p := 0 ≤ s.l.getD j 0) (by omega)]; simp), rfl⟩⟩
  rw [if_neg c0]
  by_cases c2 : s.l.getD (j + 1) 0 > ((t.l.length : Nat) : Int)
  ·rw [if_pos c2]
   exact .inr ⟨_, rfl, .inr ⟨rowOk_false hj (by unfold rowOk; rw [decide_eq_false (p := s.l.getD (j + 1) 0 ≤ (t.l.length : Int)) (by omega)]; simp), rfl⟩⟩
  rw [if_neg c2]
  obtain ⟨q, q1, q2⟩ := row_ref (nn := (n : Int)) (c := c) (v := v) hs ht hl tl hj ⟨by omega, by omega, by omega⟩ hn
  rw [q1]
  have hr : rowOk c s.l t.l j = ascI (-1) c (cutL t.l (s.l.getD j 0) (s.l.getD (j + 1) 0)) := by
   unfold rowOk
   rw [decide_eq_true (p := 0 ≤ s.l.getD j 0) (by omega), decide_eq_true (p := s.l.getD j 0 ≤ s.l.getD (j + 1) 0) (by omega), decide_eq_true (p := s.l.getD (j + 1) 0 ≤ (t.l.length : Int)) (by omega)]
   simp
  rcases q2 with ⟨e, rfl⟩ | ⟨e, rfl⟩
  ·refine .inl ⟨_, rfl, rfl, fun i hi => ?_⟩
   by_cases e' : i = j
   ·rw [e', hr, e]
   ·exact ha i (by omega)
  ·exact .inr ⟨_, rfl, .inr ⟨rowOk_false hj (by rw [hr, e]), rfl⟩⟩
 ·rintro _ ⟨rfl, ha⟩
  exact ⟨_, if_neg (by omega), .inl ⟨all_range.2 ha, rfl⟩⟩
theorem ref07_Right_w {m : Mx} (h : OkM m) : ref07_Right m = some (rightM m) := by
 obtain ⟨n, c, s, t, v⟩ := m
 obtain ⟨h1, h2, h3, h4, h5, h6, h7⟩ := h
 simp only at h1 h2 h3 h4 h5 h6 h7
 rw [ref07_Right_eq]
 unfold rightM
 simp only
 by_cases a1 : n < 0
 ·rw [if_pos a1, show sizeF n = false by unfold sizeF; rw [decide_eq_false (by omega)]; rfl]; rfl
 by_cases a2 : n > 4096
 ·rw [if_neg a1, if_pos a2, show sizeF n = false by unfold sizeF; rw [decide_eq_false (p := n ≤ 4096) (by omega)]; simp]; rfl
 rw [if_neg a1, if_neg a2, sizeF_iff.2 ⟨by omega, by omega⟩]
 by_cases b1 : c < 0
 ·rw [if_pos b1, show sizeF c = false by unfold sizeF; rw [decide_eq_false (by omega)]; rfl]; rfl
 by_cases b2 : c > 4096
 ·rw [if_neg b1, if_pos b2, show sizeF c = false by unfold sizeF; rw [decide_eq_false (p := c ≤ 4096) (by omega)]; simp]; rfl
 rw [if_neg b1, if_neg b2, sizeF_iff.2 ⟨by omega, by omega⟩]
 simp only [Bool.true_and]
 rw [wrap64 (n := n + 1) (by omega) (by omega)]
 by_cases g1 : ((s.l.length : Nat) : Int) = n + 1
 ·rw [if_neg (fun h => h g1), decide_eq_true g1]
  simp only [Bool.true_and]
  by_cases g3 : t.l.length = v.l.length
  ·rw [if_neg (fun h => h (by omega)), decide_eq_true g3]
   simp only [Bool.true_and]
   by_cases g4 : t.l.length ≤ 65536
   ·rw [if_neg (by omega), decide_eq_true g4]
    have e0 := at_get h1 (j := 0) (by omega)
    rw [← getD_lt] at e0
    have e0' : atS 1 s 0 = some (s.l.getD 0 0) := e0
    rw [e0']
    simp only [Option.bind_some, Bool.true_and]
    by_cases g2 : s.l.getD 0 0 = 0
    ·rw [if_neg (fun h => h g2), decide_eq_true g2]
     obtain ⟨k, rfl⟩ := Int.eq_ofNat_of_zero_le (show 0 ≤ n by omega)
     have en := at_get h1 (j := k) (by omega)
     rw [← getD_lt] at en
     rw [en]
     simp only [Option.bind_some, Int.toNat_natCast, Bool.true_and]
     by_cases g5 : s.l.getD k 0 = ((t.l.length : Nat) : Int)
     ·rw [if_neg (fun h => h g5), decide_eq_true g5]
      simp only [Bool.true_and]
      obtain ⟨q, q1, q2⟩ := rows_ref (c := c) (v := v) h1 h2 (by omega) (n := k) (by omega) g4
      rw [q1]
      rcases q2 with ⟨e, rfl⟩ | ⟨e, rfl⟩ <;> rw [e] <;> rfl
     ·rw [if_pos g5, decide_eq_false g5]; rfl
    ·rw [if_pos g2, decide_eq_false g2]; rfl
   ·rw [if_pos (by omega), decide_eq_false g4]; simp
  ·rw [if_pos (fun h => g3 (by omega)), decide_eq_false g3]; simp
 ·rw [if_pos g1, decide_eq_false g1]; rfl
end Ev
end Go.Proofs.Ytlkcneneagifoaa
end
section
namespace Go.Proofs.Ytlkcneneagifoaa
namespace Ev
open Go Sm
set_option linter.unusedVariables false
set_option linter.unusedSimpArgs false
def itemsM (m : Mx) (i : Nat) : List (Int × Int) := (cutL m.2.2.2.1.l (m.2.2.1.l.getD i 0) (m.2.2.1.l.getD (i + 1) 0)).zip (cutL m.2.2.2.2.l (m.2.2.1.l.getD i 0) (m.2.2.1.l.getD (i + 1) 0))
theorem rightM_spec {m : Mx} (h : rightM m = true) : (0 ≤ m.1 ∧ m.1 ≤ 4096) ∧ (0 ≤ m.2.1 ∧ m.2.1 ≤ 4096) ∧ (m.2.2.1.l.length : Int) = m.1 + 1 ∧ m.2.2.2.1.l.length = m.2.2.2.2.l.length ∧ m.2.2.2.1.l.length ≤ 65536 ∧ ∀ i : Nat, (i : Int) < m.1 → 0 ≤ m.2.2.1.l.getD i 0 ∧ m.2.2.1.l.getD i 0 ≤ m.2.2.1.l.getD (i + 1) 0 ∧ m.2.2.1.l.getD (i + 1) 0 ≤ m.2.2.2.1.l.length ∧ ascI (-1) m.2.1 (cutL m.2.2.2.1.l (m.2.2.1.l.getD i 0) (m.2.2.1.l.getD (i + 1) 0)) = true := by
 unfold rightM at h
 simp only [Bool.and_eq_true, decide_eq_true_eq, sizeF_iff] at h
 obtain ⟨h1, h2, h3, h4, h5, h6, h7, h8⟩ := h
 refine ⟨h1, h2, h3, h5, h6, fun i hi => ?_⟩
 have := all_range.1 h8 i (by omega)
 unfold rowOk at this
 simpa only [Bool.and_eq_true, decide_eq_true_eq] using this
end Ev
end Go.Proofs.Ytlkcneneagifoaa
end
section
namespace Go.Proofs.Ytlkcneneagifoaa
namespace Ev
open Go Sm
set_option linter.unusedVariables false
set_option linter.unusedSimpArgs false
theorem ref03_SameInts_w {x y : Sl Int} (hl : x.l.length ≤ 9223372036854775806) (hx : okS 1 x) (hy : okS 1 y) : ref03_SameInts x y = some (decide (x.l = y.l)) := by
 rw [ref03_SameInts_eq]
 exact same_slice hl hx hy fun a => by unfold ref03_SameInts_b1; rfl
theorem ref07_SameVals_w {x y : Sl Int} (hl : x.l.length ≤ 9223372036854775806) (hx : okS 1 x) (hy : okS 1 y) : ref07_SameVals x y = some (decide (x.l = y.l)) := by
 rw [ref07_SameVals_eq]
 exact same_slice hl hx hy fun a => by unfold ref07_SameVals_b1; rfl
theorem ref07_Same_w {x y : Mx} (hx : Mok x) (hy : Mok y) : ref07_Same x y = some (decide (x.1 = y.1 ∧ x.2.1 = y.2.1 ∧ x.2.2.1.l = y.2.2.1.l ∧ x.2.2.2.1.l = y.2.2.2.1.l ∧ x.2.2.2.2.l = y.2.2.2.2.l)) := by
 rw [ref07_Same_eq, ref03_SameInts_w hx.ls hx.s hy.s, ref03_SameInts_w hx.lc hx.c hy.c, ref07_SameVals_w hx.lv hx.v hy.v]
 simp only [Option.bind_some, decide_eq_true_eq]
 by_cases h1 : x.1 = y.1
 ·by_cases h2 : x.2.1 = y.2.1
  ·by_cases h3 : x.2.2.1.l = y.2.2.1.l
   ·by_cases h4 : x.2.2.2.1.l = y.2.2.2.1.l <;> simp [h1, h2, h3, h4]
   ·simp [h1, h2, h3]
  ·simp [h1, h2]
 ·simp [h1]
end Ev
end Go.Proofs.Ytlkcneneagifoaa
end
section
namespace Go.Proofs.Ytlkcneneagifoaa
namespace Ev
open Go Sm
set_option linter.unusedVariables false
set_option linter.unusedSimpArgs false
section
variable {m : Mx} {n c : Int} {l : List E3}
theorem ref07_Sure_is (h : Is m n c l) : ref07_Sure m = some m := by rw [ref07_Sure_eq, ref07_Right_w h.ok, h.right]; rfl
theorem ref07_Count_is (h : Is m n c l) : ref07_Count m = some (l.length : Int) := by
 rw [ref07_Count_eq, ref07_Sure_is h]
 simp only [Option.bind_some]
 rw [h.e4, List.length_map]
end
end Ev
end Go.Proofs.Ytlkcneneagifoaa
end
section
namespace Go.Proofs.Ytlkcneneagifoaa
namespace Ev
open Go Sm
set_option linter.unusedVariables false
set_option linter.unusedSimpArgs false
def rowT (m : Mx) (i : Nat) : List E3 := (itemsM m i).map fun p => ((i : Int), p.1, p.2)
def triN (m : Mx) : Nat → List E3
 | 0 => []
 | k + 1 => triN m k ++ rowT m k
section
variable {m : Mx}
theorem right_ends (h : rightM m = true) : m.2.2.1.l.getD 0 0 = 0 ∧ m.2.2.1.l.getD m.1.toNat 0 = m.2.2.2.1.l.length := by
 unfold rightM at h
 simp only [Bool.and_eq_true, decide_eq_true_eq] at h
 exact ⟨h.2.2.2.1, h.2.2.2.2.2.2.1⟩
theorem rowT_maps (hr : rightM m = true) {i : Nat} (hi : (i : Int) < m.1) : (rowT m i).map (·.2.1) = cutL m.2.2.2.1.l (m.2.2.1.l.getD i 0) (m.2.2.1.l.getD (i + 1) 0) ∧ (rowT m i).map (·.2.2) = cutL m.2.2.2.2.l (m.2.2.1.l.getD i 0) (m.2.2.1.l.getD (i + 1) 0) := by
 obtain ⟨r1, r2, r3, r4, r5, r6⟩ := rightM_spec hr
 obtain ⟨p1, p2, p3, p4⟩ := r6 i hi
 have l1 := cutL_len (l := m.2.2.2.1.l) ⟨p1, p2, p3⟩
 have l2 := cutL_len (l := m.2.2.2.2.l) (f := m.2.2.1.l.getD i 0) (t := m.2.2.1.l.getD (i + 1) 0) ⟨p1, p2, by omega⟩
 unfold rowT itemsM
 rw [List.map_map, List.map_map]
 constructor
 ·show List.map Prod.fst _ = _
  rw [List.map_fst_zip (by omega)]
 ·show List.map Prod.snd _ = _
  rw [List.map_snd_zip (by omega)]
theorem triN_maps (hr : rightM m = true) : ∀ k : Nat, (k : Int) ≤ m.1 → (triN m k).map (·.2.1) = m.2.2.2.1.l.take (m.2.2.1.l.getD k 0).toNat ∧ (triN m k).map (·.2.2) = m.2.2.2.2.l.take (m.2.2.1.l.getD k 0).toNat
 | 0, _ => by
  rw [(right_ends hr).1]
  exact ⟨rfl, rfl⟩
 | k + 1, h => by
  obtain ⟨i1, i2⟩ := triN_maps hr k (by omega)
  obtain ⟨e1, e2⟩ := rowT_maps hr (i := k) (by omega)
  obtain ⟨r1, r2, r3, r4, r5, r6⟩ := rightM_spec hr
  obtain ⟨p1, p2, p3, p4⟩ := r6 k (by omega)
  have hs : (m.2.2.1.l.getD (k + 1) 0).toNat = (m.2.2.1.l.getD k 0).toNat + ((m.2.2.1.l.getD (k + 1) 0).toNat - (m.2.2.1.l.getD k 0).toNat) := by omega
  constructor
  ·show (triN m k ++ rowT m k).map _ = _
   rw [List.map_append, i1, e1, hs, List.take_add]
   rfl
  ·show (triN m k ++ rowT m k).map _ = _
   rw [List.map_append, i2, e2, hs, List.take_add]
   rfl
theorem triN_len (hr : rightM m = true) {k : Nat} (h : (k : Int) ≤ m.1) : ((triN m k).length : Int) = m.2.2.1.l.getD k 0 := by
 have e := congrArg List.length (triN_maps hr k h).1
 rw [List.length_map, List.length_take] at e
 obtain ⟨r1, r2, r3, r4, r5, r6⟩ := rightM_spec hr
 have hb : 0 ≤ m.2.2.1.l.getD k 0 ∧ m.2.2.1.l.getD k 0 ≤ m.2.2.2.1.l.length := by
  cases k with
  | zero => rw [(right_ends hr).1]; omega
  | succ k => have := r6 k (by omega); omega
 omega
theorem rowT_mem (hr : rightM m = true) {i : Nat} (hi : (i : Int) < m.1) {x : E3} (hx : x ∈ rowT m i) : x.1 = (i : Int) ∧ 0 ≤ x.2.1 ∧ x.2.1 < m.2.1 := by
 obtain ⟨r1, r2, r3, r4, r5, r6⟩ := rightM_spec hr
 obtain ⟨p1, p2, p3, p4⟩ := r6 i hi
 have h1 : x.2.1 ∈ (rowT m i).map (·.2.1) := List.mem_map.2 ⟨x, hx, rfl⟩
 rw [(rowT_maps hr hi).1] at h1
 have := (ascI_iff'.1 p4).2 _ h1
 refine ⟨?_, by omega, by omega⟩
 unfold rowT at hx
 obtain ⟨p, _, rfl⟩ := List.mem_map.1 hx
 rfl
theorem triN_mem (hr : rightM m = true) {x : E3} : ∀ {k : Nat}, (k : Int) ≤ m.1 → x ∈ triN m k → (0 ≤ x.1 ∧ x.1 < (k : Int)) ∧ 0 ≤ x.2.1 ∧ x.2.1 < m.2.1
 | 0, _, hx => by simp [triN] at hx
 | k + 1, h, hx => by
  rcases List.mem_append.1 (show x ∈ triN m k ++ rowT m k from hx) with hx | hx
  ·have := triN_mem hr (k := k) (by omega) hx
   exact ⟨by omega, this.2⟩
  ·have := rowT_mem hr (by omega) hx
   exact ⟨by omega, this.2⟩
theorem triN_rises (hr : rightM m = true) : ∀ {k : Nat}, (k : Int) ≤ m.1 → rises (triN m k)
 | 0, _ => List.Pairwise.nil
 | k + 1, h => by
  show (triN m k ++ rowT m k).Pairwise _
  rw [List.pairwise_append]
  refine ⟨triN_rises hr (by omega), ?_, fun a ha b hb => ?_⟩
  ·obtain ⟨r1, r2, r3, r4, r5, r6⟩ := rightM_spec hr
   obtain ⟨p1, p2, p3, p4⟩ := r6 k (by omega)
   have h1 := (ascI_iff'.1 p4).1
   rw [← (rowT_maps hr (i := k) (by omega)).1, List.pairwise_map] at h1
   refine h1.imp_of_mem fun {a b} ha hb hab => ?_
   have := (rowT_mem hr (by omega) ha).1
   have := (rowT_mem hr (by omega) hb).1
   rw [bel_iff]; omega
  ·have := triN_mem hr (by omega) ha
   have := rowT_mem hr (by omega) hb
   rw [bel_iff]; omega
theorem triN_cnt (hr : rightM m = true) : ∀ {j : Nat}, (j : Int) ≤ m.1 → ∀ k, k ≤ j → cntR (triN m j) k = (triN m k).length
 | 0, _, k, hk => by
  obtain rfl : k = 0 := by omega
  rfl
 | j + 1, h, k, hk => by
  by_cases hkj : k ≤ j
  ·have ih := triN_cnt hr (j := j) (by omega) k hkj
   show (triN m j ++ rowT m j).countP _ = _
   rw [List.countP_append]
   have h0 : (rowT m j).countP (fun x => decide (x.1 < (k : Int))) = 0 := List.countP_eq_zero.2 fun x hx hd => by
    have := (rowT_mem hr (by omega) hx).1
    have : x.1 < (k : Int) := by simpa using hd
    omega
   rw [h0]
   exact ih
  ·obtain rfl : k = j + 1 := by omega
   exact List.countP_eq_length.2 fun x hx => by
    have := (triN_mem hr h hx).1.2
    simpa using this
theorem right_is (ok : OkM m) (hr : rightM m = true) : Is m m.1 m.2.1 (triN m m.1.toNat) := by
 obtain ⟨r1, r2, r3, r4, r5, r6⟩ := rightM_spec hr
 have hk : ((m.1.toNat : Nat) : Int) ≤ m.1 := by omega
 have hl := triN_len hr hk
 rw [(right_ends hr).2] at hl
 obtain ⟨e1, e2⟩ := triN_maps hr m.1.toNat hk
 rw [(right_ends hr).2, Int.toNat_natCast] at e1 e2
 rw [List.take_length] at e1
 rw [List.take_of_length_le (by omega)] at e2
 refine ⟨r1, r2, by omega, triN_rises hr hk, fun x hx => ?_, fun x hx => ?_, rfl, rfl, ?_, e1.symm, e2.symm, ok.st, ok.co, ok.va⟩
 ·have := triN_mem hr hk hx
  exact ⟨by omega, this.2⟩
 ·exact ok.v64 _ (by rw [← e2]; exact List.mem_map.2 ⟨x, hx, rfl⟩)
 ·refine List.ext_getElem? fun j => ?_
  by_cases hj : j ≤ m.1.toNat
  ·rw [tabN_get _ hj, triN_cnt hr hk j hj, triN_len hr (by omega), List.getElem?_eq_getElem (by omega), ← getD_lt]
  ·rw [List.getElem?_eq_none (by omega), List.getElem?_eq_none (by rw [tabN_len]; omega)]
end
end Ev
end Go.Proofs.Ytlkcneneagifoaa
end
section
namespace Go.Proofs.Ytlkcneneagifoaa
namespace Ev
open Go Sm
set_option linter.unusedVariables false
set_option linter.unusedSimpArgs false
def pr2 (x : E3) : Int × Int := (x.2.1, x.2.2)
section
variable {m : Mx} {n c : Int} {l : List E3}
theorem Is.at_st (h : Is m n c l) {k : Nat} (hk : k ≤ n.toNat) : atS 1 m.2.2.1 (k : Int) = some ((cntR l k : Nat) : Int) := atS_some' h.o3 (show m.2.2.1.l[k]? = some _ by rw [h.e3]; exact tabN_get _ hk)
theorem Is.at_co (h : Is m n c l) {i : Nat} (hi : i < l.length) : atS 1 m.2.2.2.1 (i : Int) = some l[i].2.1 := atS_some' h.o4 (by rw [h.e4, List.getElem?_map, List.getElem?_eq_getElem hi]; rfl)
theorem Is.at_va (h : Is m n c l) {i : Nat} (hi : i < l.length) : atS 1 m.2.2.2.2 (i : Int) = some l[i].2.2 := atS_some' h.o5 (by rw [h.e5, List.getElem?_map, List.getElem?_eq_getElem hi]; rfl)
theorem row_part (h : Is m n c l) (k : Nat) : cntR l k ≤ cntR l (k + 1) ∧ cntR l (k + 1) ≤ l.length ∧ (l.drop (cntR l k)).take (cntR l (k + 1) - cntR l k) = rowI l (k : Int) := by
 obtain ⟨c1, c2⟩ := row_cut h.r k
 exact ⟨c1, cntR_le _ _, by rw [c2, rowI_nat]⟩
theorem part_get {a b j : Nat} (hb : b ≤ l.length) (hj : a + j < b) : ((l.drop a).take (b - a))[j]? = some (l[a + j]'(by omega)) := by
 rw [List.getElem?_take, if_pos (by omega), List.getElem?_drop, List.getElem?_eq_getElem (by omega)]
theorem ref07_Row_is (h : Is m n c l) (i : Int) : ref07_Row m i = some ((rowI l i).map pr2) := by
 rw [ref07_Row_eq, ref07_Sure_is h, Option.bind_some]
 by_cases h0 : i < 0
 ·have hr : rowI l i = [] := rowI_none fun x hx he => by have := (h.p x hx).1; omega
  rw [if_pos h0, hr]; rfl
 ·by_cases h1 : i ≥ n
  ·have hr : rowI l i = [] := rowI_none fun x hx he => by have := (h.p x hx).1; omega
   rw [if_neg h0, h.e1, if_pos h1, hr]; rfl
  ·obtain ⟨k, rfl⟩ := Int.eq_ofNat_of_zero_le (by omega : 0 ≤ i)
   have hk : k < n.toNat := by omega
   have hn := h.hn
   have hlen := h.len
   obtain ⟨p1, p2, p3⟩ := row_part h k
   have w1 : IntKind.i64.wrap ((k : Int) + 1) = ((k + 1 : Nat) : Int) := w_succ (n := n.toNat) hk (by omega)
   have hpl : (rowI l (k : Int)).length = cntR l (k + 1) - cntR l k := by rw [← p3, List.length_take, List.length_drop]; omega
   rw [if_neg h0, h.e1, if_neg h1, h.at_st (by omega), Option.bind_some]
   have q : loopO (ref07_Row_b1 (k : Int) m) ([], ((cntR l k : Nat) : Int)) = some (.inl ((rowI l (k : Int)).map pr2)) := by
    refine loop_stop (rowI l (k : Int)).length (fun j => (((rowI l (k : Int)).take j).map pr2, ((cntR l k + j : Nat) : Int))) rfl (fun j hj => ?_) ?_
    ·have hlt : cntR l k + j < l.length := by omega
     have g : (rowI l (k : Int))[j]? = some l[cntR l k + j] := by rw [← p3]; exact part_get p2 (by omega)
     have g2 : (rowI l (k : Int))[j] = l[cntR l k + j] := by rw [List.getElem?_eq_getElem hj] at g; exact Option.some.inj g
     have hl2 := rowI_len l (k : Int)
     simp only [ref07_Row_b1]
     rw [w1, h.at_st (by omega), Option.bind_some, if_pos (by omega), h.at_co hlt, Option.bind_some, h.at_va hlt, Option.bind_some, app_ok (by simp [bound]; omega), Option.bind_some, wrap64 (by omega) (by omega), List.take_succ_eq_append_getElem hj, List.map_append, g2]
     rfl
    ·simp only [ref07_Row_b1]
     rw [w1, h.at_st (by omega), Option.bind_some, if_neg (by omega), List.take_length]
   rw [q]; rfl
theorem ref07_Get_is (h : Is m n c l) (i z : Int) : ∃ g, ref07_Get m i z = some g ∧ Got l i z g := by
 rw [ref07_Get_eq, ref07_Row_is h, Option.bind_some]
 have hlen := h.len
 have hl2 := rowI_len l i
 obtain ⟨q, q1, q2⟩ := loop_up (b := ref07_Get_b1 z ((rowI l i).map pr2)) (rowI l i).length (fun j a => a = (j : Int) ∧ ∀ x ∈ (rowI l i).take j, x.2.1 ≠ z) (fun q => (q = .inl () ∧ ∀ x ∈ rowI l i, x.2.1 ≠ z) ∨ ∃ x ∈ rowI l i, x.2.1 = z ∧ q = .inr (.inl (x.2.2, true)))
  (by
   rintro j _ hj ⟨rfl, g⟩
   have e : atL ((rowI l i).map pr2) (j : Int) = some (pr2 (rowI l i)[j]) := atL_some' (by rw [List.getElem?_map, List.getElem?_eq_getElem hj]; rfl)
   simp only [ref07_Get_b1]
   rw [if_pos (by rw [List.length_map]; omega), e]
   simp only [Option.bind_some]
   by_cases hz : (pr2 (rowI l i)[j]).1 = z
   ·rw [if_pos hz]
    exact .inr ⟨_, rfl, .inr ⟨(rowI l i)[j], List.getElem_mem hj, hz, rfl⟩⟩
   ·rw [if_neg hz, w_succ hj (by omega)]
    refine .inl ⟨_, rfl, rfl, fun x hx => ?_⟩
    rw [List.take_succ_eq_append_getElem hj] at hx
    rcases List.mem_append.1 hx with hx | hx
    ·exact g x hx
    ·rw [List.mem_singleton] at hx
     subst hx
     exact hz)
  (by
   rintro _ ⟨rfl, g⟩
   rw [List.take_length] at g
   refine ⟨_, ?_, .inl ⟨rfl, g⟩⟩
   simp only [ref07_Get_b1]
   rw [if_neg (by rw [List.length_map]; omega)]) 0 (Nat.zero_le _) 0 ⟨rfl, fun x hx => by simp at hx⟩
 rw [q1, Option.bind_some]
 rcases q2 with ⟨rfl, g⟩ | ⟨x, hx, hz, rfl⟩
 ·refine ⟨(0, false), rfl, .inr ⟨fun x hx ⟨a, b⟩ => ?_, rfl⟩⟩
  exact g x (by unfold rowI; rw [List.mem_filter]; exact ⟨hx, by simpa using a⟩) b
 ·exact ⟨(x.2.2, true), rfl, .inl ⟨x, (rowI_fst hx).1, (rowI_fst hx).2, hz, rfl⟩⟩
theorem ref07_Triples_is (h : Is m n c l) : ref07_Triples m = some l := by
 have hn := h.hn
 have hlen := h.len
 rw [ref07_Triples_eq, ref07_Sure_is h, Option.bind_some]
 have q : loopO (ref07_Triples_b2 m) ([], 0) = some (.inl l) := by
  refine loop_stop n.toNat (fun j => (belR l (j : Int), ((j : Nat) : Int))) (by rw [show ((0 : Nat) : Int) = 0 from rfl, belR_none fun x hx => (h.p x hx).1.1]) (fun k hk => ?_) ?_
  ·obtain ⟨p1, p2, p3⟩ := row_part h k
   have w1 : IntKind.i64.wrap ((k : Int) + 1) = ((k + 1 : Nat) : Int) := w_succ (n := n.toNat) hk (by omega)
   have hpl : (rowI l (k : Int)).length = cntR l (k + 1) - cntR l k := by rw [← p3, List.length_take, List.length_drop]; omega
   have hb := belR_len l (k : Int)
   have q : loopO (ref07_Triples_b1 m (belR l (k : Int), (k : Int))) (belR l (k : Int), ((cntR l k : Nat) : Int)) = some (.inl (belR l (k : Int) ++ rowI l (k : Int))) := by
    refine loop_stop (rowI l (k : Int)).length (fun j => (belR l (k : Int) ++ (rowI l (k : Int)).take j, ((cntR l k + j : Nat) : Int))) (by simp) (fun j hj => ?_) ?_
    ·have hlt : cntR l k + j < l.length := by omega
     have g : (rowI l (k : Int))[j]? = some l[cntR l k + j] := by rw [← p3]; exact part_get p2 (by omega)
     have g2 : (rowI l (k : Int))[j] = l[cntR l k + j] := by rw [List.getElem?_eq_getElem hj] at g; exact Option.some.inj g
     have g3 : l[cntR l k + j].1 = (k : Int) := by rw [← g2]; exact (rowI_fst (List.getElem_mem hj)).2
     have hl2 := rowI_len l (k : Int)
     simp only [ref07_Triples_b1]
     rw [w1, h.at_st (by omega), Option.bind_some, if_pos (by omega), h.at_co hlt, Option.bind_some, h.at_va hlt, Option.bind_some, app_ok (by simp [bound]; omega), Option.bind_some, wrap64 (by omega) (by omega), List.take_succ_eq_append_getElem hj, g2, ← g3, List.append_assoc]
     rfl
    ·simp only [ref07_Triples_b1]
     rw [w1, h.at_st (by omega), Option.bind_some, if_neg (by omega), List.take_length]
   simp only [ref07_Triples_b2]
   rw [h.e1, if_pos (by omega), h.at_st (by omega), Option.bind_some, q, Option.bind_some]
   simp only [Sum.elim_inl]
   rw [w1, belR_succ h.r]
  ·simp only [ref07_Triples_b2]
   rw [h.e1, if_neg (by omega), belR_all fun x hx => by have := (h.p x hx).1; omega]
 rw [q]; rfl
theorem row_turn (h : rises l) (k : Int) : (l.filter fun x => decide (x.2.1 = k)).map flip3 = rowI (turnL l) k := by
 refine rises_ext ?_ ((turn_rises h).sublist List.filter_sublist) fun x => ?_
 ·rw [rises, List.pairwise_map]
  refine (h.sublist List.filter_sublist).imp_of_mem fun {a b} ha hb hab => ?_
  have h1 : a.2.1 = k := by simpa using (List.mem_filter.1 ha).2
  have h2 : b.2.1 = k := by simpa using (List.mem_filter.1 hb).2
  rw [bel_iff] at hab ⊢
  show a.2.1 < b.2.1 ∨ a.2.1 = b.2.1 ∧ a.1 < b.1
  omega
 ·unfold rowI
  rw [mem_flip, List.mem_filter, List.mem_filter, turn_mem]
  exact Iff.rfl
theorem ref07_Turn_is (h : Is m n c l) : ∃ m', ref07_Turn m = some m' ∧ Is m' c n (turnL l) := by
 have hc := h.hc
 have hlen := h.len
 have hp : ∀ x ∈ turnL l, (0 ≤ x.1 ∧ x.1 < c) ∧ 0 ≤ x.2.1 ∧ x.2.1 < n := fun x hx => by
  have := h.p _ (turn_mem.1 hx)
  exact ⟨this.2, this.1⟩
 rw [ref07_Turn_eq, ref07_Sure_is h, Option.bind_some, ref07_Triples_is h, Option.bind_some]
 have q : loopO (ref07_Turn_b2 m l) ([], 0) = some (.inl (turnL l)) := by
  refine loop_stop c.toNat (fun j => (belR (turnL l) (j : Int), ((j : Nat) : Int))) (by rw [show ((0 : Nat) : Int) = 0 from rfl, belR_none fun x hx => (hp x hx).1.1]) (fun k hk => ?_) ?_
  ·have hb := belR_len (turnL l) (k : Int)
   rw [turn_len] at hb
   have q : loopO (ref07_Turn_b1 l (belR (turnL l) (k : Int), (k : Int))) (belR (turnL l) (k : Int), 0) = some (.inl (belR (turnL l) (k : Int) ++ (l.filter fun x => decide (x.2.1 = (k : Int))).map flip3)) := by
    refine loop_stop l.length (fun j => (belR (turnL l) (k : Int) ++ ((l.take j).filter fun x => decide (x.2.1 = (k : Int))).map flip3, ((j : Nat) : Int))) (by simp) (fun j hj => ?_) ?_
    ·have e : atL l (j : Int) = some l[j] := atL_some' (List.getElem?_eq_getElem hj)
     have hfl : ((l.take j).filter fun x => decide (x.2.1 = (k : Int))).length ≤ l.length := Nat.le_trans (List.length_filter_le _ _) (by rw [List.length_take]; omega)
     simp only [ref07_Turn_b1]
     rw [if_pos (by omega), e]
     simp only [Option.bind_some]
     rw [List.take_succ_eq_append_getElem hj, List.filter_append, List.map_append]
     by_cases hz : l[j].2.1 = (k : Int)
     ·rw [if_pos hz, app_ok (by simp [bound]; omega), Option.bind_some, w_succ hj (by omega)]
      simp only [List.filter_cons, decide_eq_true hz, if_true, List.filter_nil, List.map_cons, List.map_nil, List.append_assoc]
      unfold flip3
      rw [← hz]
     ·rw [if_neg hz, w_succ hj (by omega)]
      simp [hz]
    ·simp only [ref07_Turn_b1]
     rw [if_neg (by omega), List.take_length]
   simp only [ref07_Turn_b2]
   rw [h.e2, if_pos (by omega), q, Option.bind_some]
   simp only [Sum.elim_inl]
   rw [w_succ hk (by omega), belR_succ (turn_rises h.r), row_turn h.r]
  ·simp only [ref07_Turn_b2]
   rw [h.e2, if_neg (by omega), belR_all fun x hx => by have := (hp x hx).1; omega]
 rw [q, Option.bind_some]
 simp only [Sum.elim_inl]
 rw [h.e1, h.e2, ref07_built_w hc (ok_mo _) (by rw [mo_l, turn_len]; exact hlen) (by rw [mo_l]; exact fun x hx => (hp x hx).1), mo_l]
 exact ⟨_, rfl, is_mat hc h.hn (by rw [turn_len]; exact hlen) (turn_rises h.r) hp fun x hx => h.v (flip3 x) (turn_mem.1 hx)⟩
end
end Ev
end Go.Proofs.Ytlkcneneagifoaa
end
section
namespace Go.Proofs.Ytlkcneneagifoaa
namespace Ev
open Go Sm
set_option linter.unusedVariables false
set_option linter.unusedSimpArgs false
theorem within_cases (y : Int × Int) (n : Int) : (max y.1 0 ≤ min y.2 n ∧ csr_within y n = some (max y.1 0, min y.2 n)) ∨ (min y.2 n < max y.1 0 ∧ csr_within y n = some (0, 0)) := by
 by_cases h : max y.1 0 ≤ min y.2 n
 ·exact .inl ⟨h, within_w h⟩
 ·refine .inr ⟨by omega, ?_⟩
  rw [csr_within_eq, minI_eq, maxI_eq, if_pos (by omega)]
theorem within_ex (y : Int × Int) {n : Int} (hn : 0 ≤ n) : ∃ lo hi, csr_within y n = some (lo, hi) ∧ (0 ≤ lo ∧ lo ≤ hi ∧ hi ≤ n) ∧ (min y.2 n > max y.1 0 → lo = max y.1 0 ∧ hi = min y.2 n) ∧ (¬ min y.2 n > max y.1 0 → hi = lo) := by
 rcases within_cases y n with ⟨h, e⟩ | ⟨h, e⟩
 ·exact ⟨_, _, e, by omega, fun _ => ⟨rfl, rfl⟩, fun _ => by omega⟩
 ·exact ⟨_, _, e, by omega, fun _ => by omega, fun _ => rfl⟩
def inW (a b a2 b2 : Int) (x : E3) : Bool := decide (a ≤ x.1 ∧ x.1 < b ∧ a2 ≤ x.2.1 ∧ x.2.1 < b2)
section
variable {m : Mx} {n c : Int} {l : List E3}
theorem cut_ref (h : Is m n c l) (y z : Int × Int) : loopO (ref07_Cut_b1 y z m l) ([], 0) = some (.inl ((l.filter (inW (max y.1 0) (min y.2 n) (max z.1 0) (min z.2 c))).map (shift3 (max y.1 0) (max z.1 0)))) := by
 have hn := h.hn
 have hc := h.hc
 have hlen := h.len
 refine loop_stop l.length (fun j => (((l.take j).filter (inW (max y.1 0) (min y.2 n) (max z.1 0) (min z.2 c))).map (shift3 (max y.1 0) (max z.1 0)), ((j : Nat) : Int))) rfl (fun j hj => ?_) ?_
 ·have e : atL l (j : Int) = some l[j] := atL_some' (List.getElem?_eq_getElem hj)
  have hp := h.p _ (List.getElem_mem hj)
  have hfl : ((l.take j).filter (inW (max y.1 0) (min y.2 n) (max z.1 0) (min z.2 c))).length ≤ l.length := Nat.le_trans (List.length_filter_le _ _) (by rw [List.length_take]; omega)
  have hw := w_succ (j := j) hj (by omega)
  simp only [ref07_Cut_b1]
  rw [if_pos (by omega), e]
  simp only [Option.bind_some]
  rw [maxI_eq, maxI_eq, minI_eq, minI_eq, h.e1, h.e2, List.take_succ_eq_append_getElem hj, List.filter_append, List.map_append]
  by_cases c1 : l[j].1 ≥ max y.1 0
  ·by_cases c2 : l[j].1 < min y.2 n
   ·by_cases c3 : l[j].2.1 ≥ max z.1 0
    ·by_cases c4 : l[j].2.1 < min z.2 c
     ·have hi : inW (max y.1 0) (min y.2 n) (max z.1 0) (min z.2 c) l[j] = true := by unfold inW; rw [decide_eq_true_eq]; exact ⟨c1, c2, c3, c4⟩
      rw [if_pos c1, if_pos c2, if_pos c3, if_pos c4, wrap64 (by omega) (by omega), wrap64 (by omega) (by omega), app_ok (by simp [bound]; omega), Option.bind_some, hw]
      simp only [List.filter_cons, hi, if_true, List.filter_nil, List.map_cons, List.map_nil]
      rfl
     ·have hi : inW (max y.1 0) (min y.2 n) (max z.1 0) (min z.2 c) l[j] = false := by unfold inW; rw [decide_eq_false_iff_not]; omega
      rw [if_pos c1, if_pos c2, if_pos c3, if_neg c4, hw]
      simp [hi]
    ·have hi : inW (max y.1 0) (min y.2 n) (max z.1 0) (min z.2 c) l[j] = false := by unfold inW; rw [decide_eq_false_iff_not]; omega
     rw [if_pos c1, if_pos c2, if_neg c3, hw]
     simp [hi]
   ·have hi : inW (max y.1 0) (min y.2 n) (max z.1 0) (min z.2 c) l[j] = false := by unfold inW; rw [decide_eq_false_iff_not]; omega
    rw [if_pos c1, if_neg c2, hw]
    simp [hi]
  ·have hi : inW (max y.1 0) (min y.2 n) (max z.1 0) (min z.2 c) l[j] = false := by unfold inW; rw [decide_eq_false_iff_not]; omega
   rw [if_neg c1, hw]
   simp [hi]
 ·simp only [ref07_Cut_b1]
  rw [if_neg (by omega), List.take_length]
theorem cutE_none {lo hi lo2 hi2 : Int} (h : hi = lo ∨ hi2 = lo2) : cutE lo hi lo2 hi2 l = [] := by
 rw [List.eq_nil_iff_forall_not_mem]
 intro y hy
 have := (cutE_mem.1 hy).2
 omega
theorem ref07_Cut_is (h : Is m n c l) (y z : Int × Int) {lo hi lo2 hi2 : Int} (b1 : 0 ≤ lo ∧ lo ≤ hi ∧ hi ≤ n) (p1 : min y.2 n > max y.1 0 → lo = max y.1 0 ∧ hi = min y.2 n) (q1 : ¬ min y.2 n > max y.1 0 → hi = lo)
  (b2 : 0 ≤ lo2 ∧ lo2 ≤ hi2 ∧ hi2 ≤ c) (p2 : min z.2 c > max z.1 0 → lo2 = max z.1 0 ∧ hi2 = min z.2 c) (q2 : ¬ min z.2 c > max z.1 0 → hi2 = lo2) : ∃ m', ref07_Cut m y z = some m' ∧ Is m' (hi - lo) (hi2 - lo2) (cutE lo hi lo2 hi2 l) := by
 have hn := h.hn
 have hc := h.hc
 have hlen := h.len
 have hl := cut_len lo hi lo2 hi2 l
 have hp : ∀ x ∈ cutE lo hi lo2 hi2 l, (0 ≤ x.1 ∧ x.1 < hi - lo) ∧ 0 ≤ x.2.1 ∧ x.2.1 < hi2 - lo2 := fun x hx => (cutE_mem.1 hx).2
 have fin : ref07_built (hi - lo) (hi2 - lo2) (mo 3 (cutE lo hi lo2 hi2 l)) = some (matV (hi - lo) (hi2 - lo2) (cutE lo hi lo2 hi2 l)) := by
  rw [ref07_built_w (by omega) (ok_mo _) (by rw [mo_l]; omega) (by rw [mo_l]; exact fun x hx => (hp x hx).1), mo_l]
 have e1 : (if min y.2 n > max y.1 0 then ref07_Cut_j2 (IntKind.i64.wrap (min y.2 n - max y.1 0)) else ref07_Cut_j2 0) = some (.inl (hi - lo)) := by
  by_cases g : min y.2 n > max y.1 0
  ·obtain ⟨rfl, rfl⟩ := p1 g
   rw [if_pos g, wrap64 (by omega) (by omega)]; rfl
  ·rw [if_neg g, q1 g, Int.sub_self]; rfl
 have e2 : (if min z.2 c > max z.1 0 then ref07_Cut_j3 (IntKind.i64.wrap (min z.2 c - max z.1 0)) else ref07_Cut_j3 0) = some (.inl (hi2 - lo2)) := by
  by_cases g : min z.2 c > max z.1 0
  ·obtain ⟨rfl, rfl⟩ := p2 g
   rw [if_pos g, wrap64 (by omega) (by omega)]; rfl
  ·rw [if_neg g, q2 g, Int.sub_self]; rfl
 refine ⟨_, ?_, is_mat (by omega) (by omega) (by omega) (cut_rises h.r) hp fun x hx => h.v (x.1 + lo, x.2.1 + lo2, x.2.2) (cutE_mem.1 hx).1⟩
 rw [ref07_Cut_eq, ref07_Sure_is h, Option.bind_some, ref07_Triples_is h, Option.bind_some, cut_ref h, Option.bind_some]
 simp only [Sum.elim_inl]
 rw [maxI_eq, maxI_eq, minI_eq, minI_eq, h.e1, h.e2, e1, Option.bind_some]
 simp only [Sum.elim_inl]
 rw [e2, Option.bind_some]
 simp only [Sum.elim_inl]
 by_cases g1 : hi - lo = 0
 ·rw [if_pos g1, Option.bind_some]
  simp only [Sum.elim_inl]
  rw [cutE_none (.inl (by omega))] at fin ⊢
  rw [fin]; rfl
 ·by_cases g2 : hi2 - lo2 = 0
  ·rw [if_neg g1, if_pos g2, Option.bind_some]
   simp only [Sum.elim_inl]
   rw [cutE_none (.inr (by omega))] at fin ⊢
   rw [fin]; rfl
  ·obtain ⟨rfl, rfl⟩ := p1 (by by_cases g : min y.2 n > max y.1 0; exact g; exact absurd (q1 g) (by omega))
   obtain ⟨rfl, rfl⟩ := p2 (by by_cases g : min z.2 c > max z.1 0; exact g; exact absurd (q2 g) (by omega))
   rw [if_neg g1, if_neg g2, Option.bind_some]
   simp only [Sum.elim_inl]
   have hL : (l.filter (inW (max y.1 0) (min y.2 n) (max z.1 0) (min z.2 c))).map (shift3 (max y.1 0) (max z.1 0)) = cutE (max y.1 0) (min y.2 n) (max z.1 0) (min z.2 c) l := by
    unfold cutE belR cutF
    rw [List.filter_filter]
    refine congrArg _ (List.filter_congr fun x _ => ?_)
    unfold inW inC
    rw [Bool.eq_iff_iff]
    simp only [decide_eq_true_eq, Bool.and_eq_true]
    omega
   rw [hL, fin]; rfl
theorem csr_Row_is (h : Is m n c l) (i : Int) : csr_Row m i = some ((rowI l i).map pr2) := by
 obtain ⟨s, t, e1, e2, e3, e4, e5⟩ := csr_row_is h i
 have hlen := h.len
 have hl2 := rowI_len l i
 rw [csr_Row_eq, csr_sure_is h, Option.bind_some, e1, Option.bind_some, e2, List.length_map, capOk_self, Option.bind_some, len_ok (by omega), Option.bind_some, Int.toNat_natCast]
 have q : loopO (csr_Row_b1 (s, t)) (0, List.replicate (rowI l i).length (0, 0)) = some (.inl ((rowI l i).map pr2)) := by
  refine loop_stop (rowI l i).length (fun j => (((j : Nat) : Int), ((rowI l i).take j).map pr2 ++ List.replicate ((rowI l i).length - j) (0, 0))) (by simp) (fun j hj => ?_) ?_
  ·have g := List.getElem?_eq_getElem hj
   have a1 := atS_some' e4 (show s.l[j]? = some (rowI l i)[j].2.1 by rw [e2, List.getElem?_map, g]; rfl)
   have a2 := atS_some' e5 (show t.l[j]? = some (rowI l i)[j].2.2 by rw [e3, List.getElem?_map, g]; rfl)
   have hlt : (((rowI l i).take j).map pr2).length = j := by rw [List.length_map, List.length_take]; omega
   have hr : List.replicate ((rowI l i).length - j) ((0, 0) : Int × Int) = (0, 0) :: List.replicate ((rowI l i).length - (j + 1)) (0, 0) := by
    rw [show (rowI l i).length - j = ((rowI l i).length - (j + 1)) + 1 by omega]; rfl
   have a3 : atL (((rowI l i).take j).map pr2 ++ List.replicate ((rowI l i).length - j) (0, 0)) (j : Int) = some (0, 0) := atL_some' (by rw [List.getElem?_append_right (by omega), hlt, hr, Nat.sub_self]; rfl)
   simp only [csr_Row_b1]
   rw [if_pos (by rw [e2, List.length_map]; omega), a1]
   simp only [Option.bind_some, a2, a3, w_succ hj (by omega), Int.toNat_natCast]
   rw [List.set_append_right _ _ (by omega), hlt, Nat.sub_self, hr, List.take_succ_eq_append_getElem hj, List.map_append, List.append_assoc]
   rfl
  ·simp only [csr_Row_b1]
   rw [if_neg (by rw [e2, List.length_map]; omega), List.take_length, Nat.sub_self]
   simp
 rw [q]; rfl
end
end Ev
end Go.Proofs.Ytlkcneneagifoaa
end
section
namespace Go.Proofs.Ytlkcneneagifoaa
namespace Ev
open Go Sm
set_option linter.unusedVariables false
set_option linter.unusedSimpArgs false
theorem same_rows {α : Type} [DecidableEq α] {x y : Sl α} (hl : x.l.length ≤ 9223372036854775806) {w : Nat} (hx : okS w x) (hy : okS w y) {b : Int → Option (Int ⊕ PUnit ⊕ Bool ⊕ Empty)} {P : α → α → Prop} [∀ u v, Decidable (P u v)] (hP : ∀ u v, P u v ↔ u = v)
  (hb : ∀ a, b a = if a < (x.l.length : Int) then (atS w x a).bind fun u => (atS w y a).bind fun v => if ¬ P u v then some (.inr (.inr (.inl false))) else some (.inl (IntKind.i64.wrap (a + 1))) else some (.inr (.inl ()))) :
  (if (x.l.length : Int) ≠ (y.l.length : Int) then some false else (loopO b 0).bind fun (y : PUnit ⊕ Bool ⊕ Empty) => Sum.elim (fun _ => some true) (fun v => Sum.elim (fun v => some v) (fun v => nE v) v) y) = some (decide (x.l = y.l)) := by
 refine same_slice hl hx hy fun a => ?_
 rw [hb]
 by_cases h : a < (x.l.length : Int)
 ·rw [if_pos h, if_pos h]
  cases atS w x a with
  | none => rfl
  | some u =>
   cases atS w y a with
   | none => rfl
   | some v =>
    simp only [Option.bind_some]
    by_cases he : u = v
    ·rw [if_neg (fun hh => hh ((hP u v).2 he)), if_neg (fun hh => hh he)]
    ·rw [if_pos (fun hh => he ((hP u v).1 hh)), if_pos he]
 ·rw [if_neg h, if_neg h]
theorem SameItems_w {x y : Sl (Int × Int)} (hl : x.l.length ≤ 9223372036854775806) (hx : okS 2 x) (hy : okS 2 y) : ref07_SameItems x y = some (decide (x.l = y.l)) := by
 rw [ref07_SameItems_eq]
 exact same_rows hl hx hy (P := fun u v => u.fst = v.fst ∧ u.snd = v.snd) (fun u v => Prod.ext_iff.symm) fun a => by unfold ref07_SameItems_b1; rfl
theorem SameTriples_w {x y : Sl E3} (hl : x.l.length ≤ 9223372036854775806) (hx : okS 3 x) (hy : okS 3 y) : ref06_SameTriples x y = some (decide (x.l = y.l)) := by
 rw [ref06_SameTriples_eq]
 exact same_rows hl hx hy (P := fun u v => u.fst = v.fst ∧ u.snd.fst = v.snd.fst ∧ u.snd.snd = v.snd.snd) (fun u v => by rw [Prod.ext_iff, Prod.ext_iff]) fun a => by unfold ref06_SameTriples_b1; rfl
section
variable {m m' : Mx} {n c : Int} {l : List E3}
theorem sure_both (ok : OkM m) : ∃ a b n c l, csr_sure m = some a ∧ ref07_Sure m = some b ∧ Is a n c l ∧ Is b n c l := by
 by_cases hr : rightM m = true
 ·have h := right_is ok hr
  exact ⟨m, m, _, _, _, csr_sure_is h, ref07_Sure_is h, h, h⟩
 ·have hf := Bool.eq_false_iff.2 hr
  refine ⟨matV 0 0 [], (0, 0, ⟨true, 1, [0]⟩, nilS, nilS), 0, 0, [], ?_, ?_, is_mat (l := []) (by omega) (by omega) (by simp) List.Pairwise.nil (by simp) (by simp), ?_⟩
  ·rw [csr_sure_eq, csr_Right_w ok, hf, Option.bind_some, if_neg (by simp), show (⟨false, 0, []⟩ : Sl E3) = nilS from rfl, csr_build_w (by omega) ok_nil (by simp [nilS]) (by simp [nilS])]
   rfl
  ·rw [ref07_Sure_eq, ref07_Right_w ok, hf, Option.bind_some, if_neg (by simp), wrap64 (by omega) (by omega), capOk_self, Option.bind_some, show lenOk (0 + 1) = some () from len_ok (n := 1) (by omega), Option.bind_some]
   rfl
  ·refine ⟨by omega, by omega, by simp, List.Pairwise.nil, by simp, by simp, rfl, rfl, rfl, rfl, rfl, .inr rfl, ok_nil, ok_nil⟩
theorem csr_sure_same {a : Mx} (h : csr_sure m = some a) (ha : Is a n c l) : csr_sure a = csr_sure m := by rw [h, csr_sure_is ha]
theorem ref07_Sure_same {a : Mx} (h : ref07_Sure m = some a) (ha : Is a n c l) : ref07_Sure a = ref07_Sure m := by rw [h, ref07_Sure_is ha]
end
end Ev
end Go.Proofs.Ytlkcneneagifoaa
end
section
namespace Go.Proofs.Ytlkcneneagifoaa
namespace Ev
namespace K
open Go Go.RowKit
set_option linter.unusedVariables false
set_option linter.unusedSimpArgs false
noncomputable def ranF (E : Env) (k : FuncId) : List TD → Option (Kind × List TD) := fun vs => match cpR E 60 k vs with
 | some (.own, rs) => some (.fresh, rs)
 | r => r
theorem own_fresh {P : Program} {k : FuncId} {vs rs : List TD} (h : PureOk P k vs .own rs) : PureOk P k vs .fresh rs := fun w F ys a b c => (h w F ys a b c).mono fun e w' ⟨y, h1, h2, h3, h4⟩ => by
 have e0 : (fun b => b < w.heap.size ∧ (Kind.own ≠ .any ∨ F b)) = (fun b => b < w.heap.size ∧ (Kind.fresh ≠ .any ∨ F b)) := by funext b; simp
 rw [e0] at h2
 exact ⟨y, h1, h2, fun h => by simp at h, h4⟩
theorem ranF_ok {E : Env} (hE : E.Ok) {k : FuncId} (he : Enters E.P k) : ∀ vs kind rs, ranF E k vs = some (kind, rs) → PureOk E.P k vs kind rs ∧ Enters E.P k := fun vs kind rs h => by
 refine ⟨?_, he⟩
 unfold ranF at h
 split at h
 ·rename_i rs' hc
  cases h
  exact own_fresh ((cpR_runs hc).pure hE)
 ·exact (cpR_runs h).pure hE
theorem ranF_run {E : Env} {k : FuncId} {vs : List TD} {kind : Kind} {rs : List TD} (r : RunsP E 60 k vs (kind, rs)) : ranF E k vs = some (match kind with | .own => .fresh | q => q, rs) := by
 unfold ranF
 rw [cpR_eq r]
 cases kind <;> rfl
@[reducible] def outF : OutK → OutK
 | .data fr ts => .data fr ts
 | .own e => .data true [(false, .S e)]
 | .mown e => .data true [(false, .S e)]
def outV : (o : OutK) → o.val → (outF o).val
 | .data _ _, x => x
 | .own e, l => (⟨true, e.size, l⟩ : Sl e.val)
 | .mown e, l => mo e.size l
def entF (en : Entry) : Entry := ⟨en.k, en.ins, outF en.out, fun a => (en.f a).map (outV en.out), 1⟩
theorem entF_ok {E E2 : Env} {en : Entry} (ok : EntryOk E en) (hd : en.d ≤ 60) (hax : E2.ax en.k = some (ranF E en.k)) : EntryOk E2 (entF en) := fun m a out h => by
 obtain ⟨k, ins, o, f, d⟩ := en
 obtain ⟨x, h1, rfl⟩ := Option.map_eq_some_iff.1 h
 have r := ok (60 - d) a x h1
 rw [show 60 - d + d = 60 by dsimp only at hd; omega] at r
 cases o with
 | data fr ts =>
  cases fr with
  | true =>
   have r : RunsP E 60 k (tdsOf ins a) (.fresh, tdsOf ts x) := r
   exact runsP_ax hax (ranF_run r)
  | false =>
   have r : RunsX E 60 k (tdsOf ins a) (tdsOf ts x) := r
   obtain ⟨fr, hf⟩ := r
   refine ⟨fr, runsP_ax hax ((ranF_run hf).trans ?_)⟩
   cases fr <;> rfl
 | own e =>
  have r : RunsP E 60 k (tdsOf ins a) (.own, [.one (.s true e.size (x.map e.row))]) := r
  exact runsP_ax hax (ranF_run r)
 | mown e =>
  have r : RunsP E 60 k (tdsOf ins a) (resM e.size e.row x) := r
  cases x with
  | nil => exact runsP_ax hax (ranF_run r)
  | cons y l => exact runsP_ax hax (ranF_run r)
end K
end Ev
end Go.Proofs.Ytlkcneneagifoaa
end
section
namespace Go.Proofs.Ytlkcneneagifoaa
namespace Ev
namespace K
open Go Go.RowKit
set_option linter.unusedVariables false
set_option linter.unusedSimpArgs false
set_option maxRecDepth 100000
set_option maxHeartbeats 1000000
noncomputable def ax2 : Ax := (addAx (addAx (addAx (addAx (addAx (addAx (addAx (addAx (addAx (addAx (addAx (addAx (addAx (addAx (addAx (addAx (addAx (addAx (addAx (fun _ => none) 17 (ranF E1 17)) 18 (ranF E1 18)) 19 (ranF E1 19)) 20 (ranF E1 20)) 21 (ranF E1 21)) 22 (ranF E1 22)) 23 (ranF E1 23)) 24 (ranF E1 24)) 25 (ranF E1 25)) 26 (ranF E1 26)) 27 (ranF E1 27)) 28 (ranF E1 28)) 29 (ranF E1 29)) 30 (ranF E1 30)) 31 (ranF E1 31)) 32 (ranF E1 32)) 33 (ranF E1 33)) 34 (ranF E1 34)) 35 (ranF E1 35))
theorem ent17 : Ev.Enters Try.prog 17 := ⟨_, _, Try.func17, by kernel_rfl, by unfold Try.f17; rfl⟩
theorem ent18 : Ev.Enters Try.prog 18 := ⟨_, _, Try.func18, by kernel_rfl, by unfold Try.f18; rfl⟩
theorem ent19 : Ev.Enters Try.prog 19 := ⟨_, _, Try.func19, by kernel_rfl, by unfold Try.f19; rfl⟩
theorem ent20 : Ev.Enters Try.prog 20 := ⟨_, _, Try.func20, by kernel_rfl, by unfold Try.f20; rfl⟩
theorem ent21 : Ev.Enters Try.prog 21 := ⟨_, _, Try.func21, by kernel_rfl, by unfold Try.f21; rfl⟩
theorem ent22 : Ev.Enters Try.prog 22 := ⟨_, _, Try.func22, by kernel_rfl, by unfold Try.f22; rfl⟩
theorem ent23 : Ev.Enters Try.prog 23 := ⟨_, _, Try.func23, by kernel_rfl, by unfold Try.f23; rfl⟩
theorem ent24 : Ev.Enters Try.prog 24 := ⟨_, _, Try.func24, by kernel_rfl, by unfold Try.f24; rfl⟩
theorem ent25 : Ev.Enters Try.prog 25 := ⟨_, _, Try.func25, by kernel_rfl, by unfold Try.f25; rfl⟩
theorem ent26 : Ev.Enters Try.prog 26 := ⟨_, _, Try.func26, by kernel_rfl, by unfold Try.f26; rfl⟩
theorem ent27 : Ev.Enters Try.prog 27 := ⟨_, _, Try.func27, by kernel_rfl, by unfold Try.f27; rfl⟩
theorem ent28 : Ev.Enters Try.prog 28 := ⟨_, _, Try.func28, by kernel_rfl, by unfold Try.f28; rfl⟩
theorem ent29 : Ev.Enters Try.prog 29 := ⟨_, _, Try.func29, by kernel_rfl, by unfold Try.f29; rfl⟩
theorem ent30 : Ev.Enters Try.prog 30 := ⟨_, _, Try.func30, by kernel_rfl, by unfold Try.f30; rfl⟩
theorem ent31 : Ev.Enters Try.prog 31 := ⟨_, _, Try.func31, by kernel_rfl, by unfold Try.f31; rfl⟩
theorem ent32 : Ev.Enters Try.prog 32 := ⟨_, _, Try.func32, by kernel_rfl, by unfold Try.f32; rfl⟩
theorem ent33 : Ev.Enters Try.prog 33 := ⟨_, _, Try.func33, by kernel_rfl, by unfold Try.f33; rfl⟩
theorem ent34 : Ev.Enters Try.prog 34 := ⟨_, _, Try.func34, by kernel_rfl, by unfold Try.f34; rfl⟩
theorem ent35 : Ev.Enters Try.prog 35 := ⟨_, _, Try.func35, by kernel_rfl, by unfold Try.f35; rfl⟩
theorem ax2_ok : AxOk Try.prog ax2 := (axOk_add (axOk_add (axOk_add (axOk_add (axOk_add (axOk_add (axOk_add (axOk_add (axOk_add (axOk_add (axOk_add (axOk_add (axOk_add (axOk_add (axOk_add (axOk_add (axOk_add (axOk_add (axOk_add (axOk_none _) (ranF_ok E1_ok ent17)) (ranF_ok E1_ok ent18)) (ranF_ok E1_ok ent19)) (ranF_ok E1_ok ent20)) (ranF_ok E1_ok ent21)) (ranF_ok E1_ok ent22)) (ranF_ok E1_ok ent23)) (ranF_ok E1_ok ent24)) (ranF_ok E1_ok ent25)) (ranF_ok E1_ok ent26)) (ranF_ok E1_ok ent27)) (ranF_ok E1_ok ent28)) (ranF_ok E1_ok ent29)) (ranF_ok E1_ok ent30)) (ranF_ok E1_ok ent31)) (ranF_ok E1_ok ent32)) (ranF_ok E1_ok ent33)) (ranF_ok E1_ok ent34)) (ranF_ok E1_ok ent35))
noncomputable def E2 : Env := envOf Try.prog ax2
theorem E2_ok : E2.Ok := envOf_ok mixed0 names0 ax2_ok
theorem TT2_ok : AllT E2 TT := TT_ok
theorem EQS2_ok : AllQ E2.P EQS := EQS_ok
theorem FL17_ok2 : EntryOk E2 (entF FL17_E) := entF_ok FL17_ok (by decide) (by kernel_rfl)
theorem ref07_Same_ok2 : EntryOk E2 (entF ref07_Same_E) := entF_ok ref07_Same_ok (by decide) (by kernel_rfl)
theorem csr_Get_ok2 : EntryOk E2 (entF csr_Get_E) := entF_ok csr_Get_ok (by decide) (by kernel_rfl)
theorem ref07_Get_ok2 : EntryOk E2 (entF ref07_Get_E) := entF_ok ref07_Get_ok (by decide) (by kernel_rfl)
theorem csr_Right_ok2 : EntryOk E2 (entF csr_Right_E) := entF_ok csr_Right_ok (by decide) (by kernel_rfl)
theorem ref07_Right_ok2 : EntryOk E2 (entF ref07_Right_E) := entF_ok ref07_Right_ok (by decide) (by kernel_rfl)
theorem csr_Count_ok2 : EntryOk E2 (entF csr_Count_E) := entF_ok csr_Count_ok (by decide) (by kernel_rfl)
theorem ref07_Count_ok2 : EntryOk E2 (entF ref07_Count_E) := entF_ok ref07_Count_ok (by decide) (by kernel_rfl)
theorem ref07_SameItems_ok2 : EntryOk E2 (entF ref07_SameItems_E) := entF_ok ref07_SameItems_ok (by decide) (by kernel_rfl)
theorem csr_Row_ok2 : EntryOk E2 (entF csr_Row_E) := entF_ok csr_Row_ok (by decide) (by kernel_rfl)
theorem ref07_Row_ok2 : EntryOk E2 (entF ref07_Row_E) := entF_ok ref07_Row_ok (by decide) (by kernel_rfl)
theorem ref06_SameTriples_ok2 : EntryOk E2 (entF ref06_SameTriples_E) := entF_ok ref06_SameTriples_ok (by decide) (by kernel_rfl)
theorem csr_Triples_ok2 : EntryOk E2 (entF csr_Triples_E) := entF_ok csr_Triples_ok (by decide) (by kernel_rfl)
theorem ref07_Triples_ok2 : EntryOk E2 (entF ref07_Triples_E) := entF_ok ref07_Triples_ok (by decide) (by kernel_rfl)
theorem csr_Turn_ok2 : EntryOk E2 (entF csr_Turn_E) := entF_ok csr_Turn_ok (by decide) (by kernel_rfl)
theorem ref07_Turn_ok2 : EntryOk E2 (entF ref07_Turn_E) := entF_ok ref07_Turn_ok (by decide) (by kernel_rfl)
theorem csr_Cut_ok2 : EntryOk E2 (entF csr_Cut_E) := entF_ok csr_Cut_ok (by decide) (by kernel_rfl)
theorem ref07_Cut_ok2 : EntryOk E2 (entF ref07_Cut_E) := entF_ok ref07_Cut_ok (by decide) (by kernel_rfl)
theorem csr_Same_ok2 : EntryOk E2 (entF csr_Same_E) := entF_ok csr_Same_ok (by decide) (by kernel_rfl)
def law07_CsrAsks2_A : AnnK := []
noncomputable def law07_CsrAsks2_G : KG := ⟨TT, EQS, [entF FL17_E, entF ref07_Same_E, entF csr_Get_E, entF ref07_Get_E, entF csr_Right_E, entF ref07_Right_E, entF csr_Count_E, entF ref07_Count_E, entF ref07_SameItems_E, entF csr_Row_E, entF ref07_Row_E, entF ref06_SameTriples_E, entF csr_Triples_E, entF ref07_Triples_E, entF csr_Turn_E, entF ref07_Turn_E, entF csr_Cut_E, entF ref07_Cut_E, entF csr_Same_E], []⟩
noncomputable def law07_CsrAsks2 : vals [(true, .C (.I .i64) (.C (.I .i64) (.C (.S (.I .i64)) (.C (.S (.I .i64)) (.S (.I .i64)))))), (true, .C (.I .i64) (.I .i64)), (true, .C (.I .i64) (.I .i64))] → Option (OutK.val (.data true [(false, .B)])) := funK law07_CsrAsks2_G law07_CsrAsks2_A fi4 4 0 [(true, .C (.I .i64) (.C (.I .i64) (.C (.S (.I .i64)) (.C (.S (.I .i64)) (.S (.I .i64)))))), (true, .C (.I .i64) (.I .i64)), (true, .C (.I .i64) (.I .i64))] (.data true [(false, .B)])
noncomputable def law07_CsrAsks2_E : Entry := ⟨4, [(true, .C (.I .i64) (.C (.I .i64) (.C (.S (.I .i64)) (.C (.S (.I .i64)) (.S (.I .i64)))))), (true, .C (.I .i64) (.I .i64)), (true, .C (.I .i64) (.I .i64))], .data true [(false, .B)], law07_CsrAsks2, 2⟩
theorem law07_CsrAsks2_Gok : GOk law07_CsrAsks2_G E2 1 := gok E2_ok TT2_ok EQS2_ok ⟨⟨by decide, FL17_ok2⟩, ⟨⟨by decide, ref07_Same_ok2⟩, ⟨⟨by decide, csr_Get_ok2⟩, ⟨⟨by decide, ref07_Get_ok2⟩, ⟨⟨by decide, csr_Right_ok2⟩, ⟨⟨by decide, ref07_Right_ok2⟩, ⟨⟨by decide, csr_Count_ok2⟩, ⟨⟨by decide, ref07_Count_ok2⟩, ⟨⟨by decide, ref07_SameItems_ok2⟩, ⟨⟨by decide, csr_Row_ok2⟩, ⟨⟨by decide, ref07_Row_ok2⟩, ⟨⟨by decide, ref06_SameTriples_ok2⟩, ⟨⟨by decide, csr_Triples_ok2⟩, ⟨⟨by decide, ref07_Triples_ok2⟩, ⟨⟨by decide, csr_Turn_ok2⟩, ⟨⟨by decide, ref07_Turn_ok2⟩, ⟨⟨by decide, csr_Cut_ok2⟩, ⟨⟨by decide, ref07_Cut_ok2⟩, ⟨⟨by decide, csr_Same_ok2⟩, trivial⟩⟩⟩⟩⟩⟩⟩⟩⟩⟩⟩⟩⟩⟩⟩⟩⟩⟩⟩ trivial
theorem fnW4 : E2.fn 4 = some fi4 := fn_of Try.func4 (by unfold Try.f4; rfl)
theorem law07_CsrAsks2_ok : EntryOk E2 law07_CsrAsks2_E := mkE_ok law07_CsrAsks2_Gok (by kernel_rfl) fnW4 (by kernel_rfl) rfl
end K
end Ev
end Go.Proofs.Ytlkcneneagifoaa
end
section
namespace Go.Proofs.Ytlkcneneagifoaa
namespace Ev
open Go Sm
set_option linter.unusedVariables false
set_option linter.unusedSimpArgs false
set_option maxRecDepth 100000
noncomputable def law07_CsrAsks2 (x : Int × Int × Sl Int × Sl Int × Sl Int) (y : Int × Int) (z : Int × Int) : Option Bool := K.law07_CsrAsks2 (x, y, z)
theorem law07_CsrAsks2_eq (x : Int ×
 Int × Sl Int × Sl Int × Sl Int) (y : Int × Int) (z : Int × Int) : law07_CsrAsks2 x y z =
 if (↑x.snd.snd.fst.l.length : Int) > 60 then
 ((FL17).map fun x => x).bind
  fun (out : Bool) => some (decide (out = true))
else
 if (↑x.snd.snd.snd.fst.l.length : Int) > 80 then
  ((FL17).map fun x => x).bind
   fun (out : Bool) => some (decide (out = true))
 else
  if (↑x.snd.snd.snd.snd.l.length : Int) > 80 then
   ((FL17).map fun x => x).bind
    fun (out : Bool) => some (decide (out = true))
  else
   ((csr_Get x y.fst z.fst).map fun x => x).bind
    fun (out : Int × Bool) =>
    ((ref07_Get x y.fst z.fst).map fun x => x).bind
     fun (out_1 : Int × Bool) =>
     ((FL17).map fun x => x).bind
      fun (out_2 : Bool) =>
      if ¬out_2 = true then some false
      else
       if out.fst ≠ out_1.fst then some false
       else
        if ¬decide (out.snd = true) = decide (out_1.snd = true) then some false
        else
         ((csr_Right x).map fun x => x).bind
          fun (out : Bool) =>
          ((ref07_Right x).map fun x => x).bind
           fun (out_3 : Bool) =>
           if ¬decide (out = true) = decide (out_3 = true) then some false
           else
            ((csr_Count x).map fun x => x).bind
             fun (out : Int) =>
             ((ref07_Count x).map fun x => x).bind
              fun (out_4 : Int) =>
              if out ≠ out_4 then some false
              else
               if x.snd.fst > 500 then
                ((ref07_Right x).map fun x => x).bind
                 fun (out : Bool) =>
                 if out = true then some true
                 else
                  ((csr_Row x y.fst).map fun x => { nn := true, sz := 2, l := x }).bind
                   fun (out : Sl (Int × Int)) =>
                   ((ref07_Row x y.fst).map fun x => (mo 2 x)).bind
                    fun (out_5 : Sl (Int × Int)) =>
                    ((ref07_SameItems out out_5).map fun x => x).bind
                     fun (out : Bool) =>
                     if out = true then
                      ((csr_Triples x).map fun x => { nn := true, sz := 3, l := x }).bind
                       fun (out : Sl (Int × Int × Int)) =>
                       ((ref07_Triples x).map fun x => (mo 3 x)).bind
                        fun (out_6 : Sl (Int × Int × Int)) =>
                        ((ref06_SameTriples out out_6).map fun x => x).bind
                         fun (out : Bool) =>
                         if out = true then
                          ((csr_Turn x).map fun x => x).bind
                           fun (out : Int × Int × Sl Int × Sl Int × Sl Int) =>
                           ((ref07_Turn x).map fun x => x).bind
                            fun (out_7 : Int × Int × Sl Int × Sl Int × Sl Int) =>
                            ((ref07_Same out out_7).map fun x => x).bind
                             fun (out : Bool) =>
                             if out = true then
                              ((csr_Cut x y z).map fun x => x).bind
                               fun (out : Int × Int × Sl Int × Sl Int × Sl Int) =>
                               ((ref07_Cut x y z).map fun x => x).bind
                                fun (out_8 : Int × Int × Sl Int × Sl Int × Sl Int) =>
                                ((ref07_Same out out_8).map fun x => x).bind
                                 fun (out : Bool) =>
                                 if out = true then
                                  ((csr_Same x x).map fun x => x).bind
                                   fun (out : Bool) => some (decide (out = true))
                                 else some false
                             else some false
                         else some false
                     else some false
               else
                ((csr_Row x y.fst).map fun x => { nn := true, sz := 2, l := x }).bind
                 fun (out : Sl (Int × Int)) =>
                 ((ref07_Row x y.fst).map fun x => (mo 2 x)).bind
                  fun (out_5 : Sl (Int × Int)) =>
                  ((ref07_SameItems out out_5).map fun x => x).bind
                   fun (out : Bool) =>
                   if out = true then
                    ((csr_Triples x).map fun x => { nn := true, sz := 3, l := x }).bind
                     fun (out : Sl (Int × Int × Int)) =>
                     ((ref07_Triples x).map fun x => (mo 3 x)).bind
                      fun (out_6 : Sl (Int × Int × Int)) =>
                      ((ref06_SameTriples out out_6).map fun x => x).bind
                       fun (out : Bool) =>
                       if out = true then
                        ((csr_Turn x).map fun x => x).bind
                         fun (out : Int × Int × Sl Int × Sl Int × Sl Int) =>
                         ((ref07_Turn x).map fun x => x).bind
                          fun (out_7 : Int × Int × Sl Int × Sl Int × Sl Int) =>
                          ((ref07_Same out out_7).map fun x => x).bind
                           fun (out : Bool) =>
                           if out = true then
                            ((csr_Cut x y z).map fun x => x).bind
                             fun (out : Int × Int × Sl Int × Sl Int × Sl Int) =>
                             ((ref07_Cut x y z).map fun x => x).bind
                              fun (out_8 : Int × Int × Sl Int × Sl Int × Sl Int) =>
                              ((ref07_Same out out_8).map fun x => x).bind
                               fun (out : Bool) =>
                               if out = true then
                                ((csr_Same x x).map fun x => x).bind
                                 fun (out : Bool) => some (decide (out = true))
                               else some false
                           else some false
                       else some false
                   else some false := by kernel_rfl
section
variable {x a : Mx} {n c : Int} {l : List E3}
theorem Get_sure (h : csr_sure x = some a) (ha : Is a n c l) (i j : Int) : csr_Get x i j = csr_Get a i j := by rw [csr_Get_eq, csr_Get_eq, csr_sure_same h ha]
theorem Count_sure (h : csr_sure x = some a) (ha : Is a n c l) : csr_Count x = csr_Count a := by rw [csr_Count_eq, csr_Count_eq, csr_sure_same h ha]
theorem Row_sure (h : csr_sure x = some a) (ha : Is a n c l) (i : Int) : csr_Row x i = csr_Row a i := by rw [csr_Row_eq, csr_Row_eq, csr_sure_same h ha]
theorem Triples_sure (h : csr_sure x = some a) (ha : Is a n c l) : csr_Triples x = csr_Triples a := by rw [csr_Triples_eq, csr_Triples_eq, csr_sure_same h ha]
theorem Turn_sure (h : csr_sure x = some a) (ha : Is a n c l) : csr_Turn x = csr_Turn a := by rw [csr_Turn_eq, csr_Turn_eq, csr_sure_same h ha]
theorem Cut_sure (h : csr_sure x = some a) (ha : Is a n c l) (y z : Int × Int) : csr_Cut x y z = csr_Cut a y z := by rw [csr_Cut_eq, csr_Cut_eq, csr_sure_same h ha]
theorem Same_sure (h : csr_sure x = some a) (ha : Is a n c l) : csr_Same x x = csr_Same a a := by rw [csr_Same_eq, csr_Same_eq, csr_sure_same h ha]
theorem rCount_sure (h : ref07_Sure x = some a) (ha : Is a n c l) : ref07_Count x = ref07_Count a := by rw [ref07_Count_eq, ref07_Count_eq, ref07_Sure_same h ha]
theorem rRow_sure (h : ref07_Sure x = some a) (ha : Is a n c l) (i : Int) : ref07_Row x i = ref07_Row a i := by rw [ref07_Row_eq, ref07_Row_eq, ref07_Sure_same h ha]
theorem rGet_sure (h : ref07_Sure x = some a) (ha : Is a n c l) (i j : Int) : ref07_Get x i j = ref07_Get a i j := by rw [ref07_Get_eq, ref07_Get_eq, rRow_sure h ha]
theorem rTriples_sure (h : ref07_Sure x = some a) (ha : Is a n c l) : ref07_Triples x = ref07_Triples a := by rw [ref07_Triples_eq, ref07_Triples_eq, ref07_Sure_same h ha]
theorem rTurn_sure (h : ref07_Sure x = some a) (ha : Is a n c l) : ref07_Turn x = ref07_Turn a := by rw [ref07_Turn_eq, ref07_Turn_eq, ref07_Sure_same h ha]
theorem rCut_sure (h : ref07_Sure x = some a) (ha : Is a n c l) (y z : Int × Int) : ref07_Cut x y z = ref07_Cut a y z := by rw [ref07_Cut_eq, ref07_Cut_eq, ref07_Sure_same h ha]
theorem ref_same {b : Mx} (ha : Is a n c l) (hb : Is b n c l) : ref07_Same a b = some true := by
 rw [ref07_Same_w ha.mok hb.mok, ha.e1, hb.e1, ha.e2, hb.e2, ha.e3, hb.e3, ha.e4, hb.e4, ha.e5, hb.e5]
 simp
end
theorem okM_of {x : Mx} (h : K.W (.C (.I .i64) (.C (.I .i64) (.C (.S (.I .i64)) (.C (.S (.I .i64)) (.S (.I .i64)))))) x) : OkM x := by
 obtain ⟨h1, h2, h3, h4, h5⟩ := h
 refine ⟨.inr h3.1, .inr h4.1, .inr h5.1, fun y hy => i64r_of (h5.2.2.2 y hy), ?_, ?_, ?_⟩
 ·have := h3.2.2.1; unfold maxLen at this; omega
 ·have := h4.2.2.1; unfold maxLen at this; omega
 ·have := h5.2.2.1; unfold maxLen at this; omega
theorem law07_CsrAsks2_true (x : Mx) (y z : Int × Int) (h0 : K.W (.C (.I .i64) (.C (.I .i64) (.C (.S (.I .i64)) (.C (.S (.I .i64)) (.S (.I .i64)))))) x) (h1 : K.W (.C (.I .i64) (.I .i64)) y) (h2 : K.W (.C (.I .i64) (.I .i64)) z) : law07_CsrAsks2 x y z = some true := by
 have ok := okM_of h0
 obtain ⟨a, b, n, c, l, ha, hb, ia, ib⟩ := sure_both ok
 have hlive : FL17 = some true := rfl
 have hd : some (decide (true = true)) = some true := congrArg some (decide_eq_true rfl)
 obtain ⟨g, g1, g2⟩ := csr_Get_is ia y.1 z.1
 obtain ⟨g', g3, g4⟩ := ref07_Get_is ib y.1 z.1
 obtain rfl := g2.uniq ia.r g4
 have f0 := (Get_sure ha ia y.1 z.1).trans g1
 have f0' := (rGet_sure hb ib y.1 z.1).trans g3
 have fr := csr_Right_w ok
 have fr' := ref07_Right_w ok
 have fc := (Count_sure ha ia).trans (csr_Count_is ia)
 have fc' := (rCount_sure hb ib).trans (ref07_Count_is ib)
 have f1 := (Row_sure ha ia y.1).trans (csr_Row_is ia y.1)
 have f2 := (rRow_sure hb ib y.1).trans (ref07_Row_is ib y.1)
 have hlen := ia.len
 have hrl := rowI_len l y.1
 have f3 : ref07_SameItems ⟨true, 2, (rowI l y.1).map pr2⟩ (mo 2 ((rowI l y.1).map pr2)) = some true := by
  rw [SameItems_w (by dsimp only; rw [List.length_map]; omega) (.inr rfl) (ok_mo _), mo_l]
  exact congrArg some (decide_eq_true rfl)
 have f4 := (Triples_sure ha ia).trans (csr_Triples_is ia)
 have f5 := (rTriples_sure hb ib).trans (ref07_Triples_is ib)
 have f6 : ref06_SameTriples ⟨true, 3, l⟩ (mo 3 l) = some true := by
  rw [SameTriples_w (by dsimp only; omega) (.inr rfl) (ok_mo _), mo_l]
  exact congrArg some (decide_eq_true rfl)
 obtain ⟨t, t1, t2⟩ := csr_Turn_is ia
 obtain ⟨t', t3, t4⟩ := ref07_Turn_is ib
 have f7 := (Turn_sure ha ia).trans t1
 have f8 := (rTurn_sure hb ib).trans t3
 have f9 := ref_same t2 t4
 obtain ⟨lo, hi, w1, w2, w3, w4⟩ := within_ex y ia.hn.1
 obtain ⟨lo2, hi2, w5, w6, w7, w8⟩ := within_ex z ia.hc.1
 obtain ⟨u, u1, u2⟩ := csr_Cut_is ia w1 w2 w5 w6
 obtain ⟨u', u3, u4⟩ := ref07_Cut_is ib y z w2 w3 w4 w6 w7 w8
 have f10 := (Cut_sure ha ia y z).trans u1
 have f11 := (rCut_sure hb ib y z).trans u3
 have f12 := ref_same u2 u4
 have f13 := (Same_sure ha ia).trans (csr_Same_is ia ia)
 rw [law07_CsrAsks2_eq]
 by_cases c1 : (x.2.2.1.l.length : Int) > 60
 ·rw [if_pos c1, hlive, Option.map_some, Option.bind_some, hd]
 by_cases c2 : (x.2.2.2.1.l.length : Int) > 80
 ·rw [if_neg c1, if_pos c2, hlive, Option.map_some, Option.bind_some, hd]
 by_cases c3 : (x.2.2.2.2.l.length : Int) > 80
 ·rw [if_neg c1, if_neg c2, if_pos c3, hlive, Option.map_some, Option.bind_some, hd]
 rw [if_neg c1, if_neg c2, if_neg c3, f0, Option.map_some, Option.bind_some, f0', Option.map_some, Option.bind_some, hlive, Option.map_some, Option.bind_some, if_neg (fun h => h rfl), if_neg (fun h => h rfl), if_neg (fun h => h rfl), fr, Option.map_some, Option.bind_some, fr', Option.map_some, Option.bind_some, if_neg (fun h => h rfl), fc, Option.map_some, Option.bind_some, fc', Option.map_some, Option.bind_some, if_neg (fun h => h rfl)]
 by_cases c4 : x.2.1 > 500
 ·rw [if_pos c4, Option.bind_some]
  by_cases hr : rightM x = true
  ·rw [if_pos hr]
  ·rw [if_neg hr]
   rw [f1, Option.map_some, Option.bind_some, f2, Option.map_some, Option.bind_some, f3, Option.map_some, Option.bind_some, if_pos rfl, f4, Option.map_some, Option.bind_some, f5, Option.map_some, Option.bind_some, f6, Option.map_some, Option.bind_some, if_pos rfl, f7, Option.map_some, Option.bind_some, f8, Option.map_some, Option.bind_some, f9, Option.map_some, Option.bind_some, if_pos rfl, f10, Option.map_some, Option.bind_some, f11, Option.map_some, Option.bind_some, f12, Option.map_some, Option.bind_some, if_pos rfl, f13, Option.map_some, Option.bind_some, hd]
 ·rw [if_neg c4]
  rw [f1, Option.map_some, Option.bind_some, f2, Option.map_some, Option.bind_some, f3, Option.map_some, Option.bind_some, if_pos rfl, f4, Option.map_some, Option.bind_some, f5, Option.map_some, Option.bind_some, f6, Option.map_some, Option.bind_some, if_pos rfl, f7, Option.map_some, Option.bind_some, f8, Option.map_some, Option.bind_some, f9, Option.map_some, Option.bind_some, if_pos rfl, f10, Option.map_some, Option.bind_some, f11, Option.map_some, Option.bind_some, f12, Option.map_some, Option.bind_some, if_pos rfl, f13, Option.map_some, Option.bind_some, hd]
end Ev
end Go.Proofs.Ytlkcneneagifoaa
end
