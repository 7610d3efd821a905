/- Texts of a claim, joined. -/
import Derived.Test.YtlkcneneagifoaaZC11
import Derived.Test.YtlkcneneagifoaaZC9
import Derived.Test.YtlkcneneagifoaaZC5
import Derived.Test.YtlkcneneagifoaaZC3
import Derived.Test.YtlkcneneagifoaaZC10
set_option linter.unusedVariables false
set_option linter.unusedSimpArgs false
section
namespace Go.Proofs.Ytlkcneneagifoaa
namespace Ev
namespace K
open Go Go.RowKit
set_option linter.unusedVariables false
set_option linter.unusedSimpArgs false
set_option maxRecDepth 100000
set_option maxHeartbeats 1000000
def law07_Few_A : AnnK := []
noncomputable def law07_Few_G : KG := ⟨TT, EQS, [], []⟩
noncomputable def law07_Few : vals [yD2] → Option (OutK.val (.data false [yD2])) := funK law07_Few_G law07_Few_A fi14 14 0 [yD2] (.data false [yD2])
noncomputable def law07_Few_E : Entry := ⟨14, [yD2], .data false [yD2], law07_Few, 1⟩
def csr_size_A : AnnK := []
noncomputable def csr_size_G : KG := ⟨TT, EQS, [], []⟩
noncomputable def csr_size : vals [(false, .I .i64)] → Option (OutK.val (.data true [(false, .B)])) := funK csr_size_G csr_size_A fi63 63 0 [(false, .I .i64)] (.data true [(false, .B)])
noncomputable def csr_size_E : Entry := ⟨63, [(false, .I .i64)], .data true [(false, .B)], csr_size, 1⟩
def csr_build_A : AnnK := [(65, ⟨[⟨false, 3, 0, [6, 7, 16, 17], ⟨[(18, false, [.d true (.I .i64)])], [(7, [.d true (.I .i64), .d true (.I .i64), .o (.I .i64), .m (.I .i64), .m (.I .i64)])], []⟩, [(.exit 0, ⟨[], [(7, [.d true (.I .i64), .d true (.I .i64), .o (.I .i64), .m (.I .i64), .m (.I .i64)])], []⟩)]⟩], []⟩), (75, ⟨[⟨false, 1, 0, [0], ⟨[(2, false, [.d true (.I .i64)])], [], [(.sl 0 0, .I .i64)]⟩, [(.exit 0, ⟨[], [], [(.sl 0 0, .I .i64)]⟩)]⟩], [(3, ⟨[[], [], [], [], [], [], [], [], [], [], [], [.sl 0 0]], [(false, []), (false, []), (false, []), (false, []), (false, []), (false, []), (false, []), (false, []), (false, []), (false, []), (false, []), (false, [])]⟩)]⟩)]
noncomputable def csr_build_G : KG := ⟨TT, EQS, [], [(75, fi75)]⟩
noncomputable def csr_build : vals [(false, .I .i64), (false, .I .i64), yD2] → Option (OutK.val (.data true [yD1])) := funK csr_build_G csr_build_A fi65 65 6 [(false, .I .i64), (false, .I .i64), yD2] (.data true [yD1])
noncomputable def csr_build_E : Entry := ⟨65, [(false, .I .i64), (false, .I .i64), yD2], .data true [yD1], csr_build, 7⟩
def ref02_Is_A : AnnK := []
noncomputable def ref02_Is_G : KG := ⟨TT, EQS, [], []⟩
noncomputable def ref02_Is : vals [(false, .I .i64)] → Option (OutK.val (.data true [(false, .B)])) := funK ref02_Is_G ref02_Is_A fi40 40 0 [(false, .I .i64)] (.data true [(false, .B)])
noncomputable def ref02_Is_E : Entry := ⟨40, [(false, .I .i64)], .data true [(false, .B)], ref02_Is, 1⟩
def ref05_below_A : AnnK := []
noncomputable def ref05_below_G : KG := ⟨TT, EQS, [], []⟩
noncomputable def ref05_below : vals [yD3, yD3] → Option (OutK.val (.data true [(false, .B)])) := funK ref05_below_G ref05_below_A fi100 100 0 [yD3, yD3] (.data true [(false, .B)])
noncomputable def ref05_below_E : Entry := ⟨100, [yD3, yD3], .data true [(false, .B)], ref05_below, 1⟩
def ref01_Of_A : AnnK := []
noncomputable def ref01_Of_G : KG := ⟨TT, EQS, [], []⟩
noncomputable def ref01_Of : vals [(false, .I .i64)] → Option (OutK.val (.data true [yD5])) := funK ref01_Of_G ref01_Of_A fi101 101 0 [(false, .I .i64)] (.data true [yD5])
noncomputable def ref01_Of_E : Entry := ⟨101, [(false, .I .i64)], .data true [yD5], ref01_Of, 1⟩
def ref01_Compare_A : AnnK := []
noncomputable def ref01_Compare_G : KG := ⟨TT, EQS, [], []⟩
noncomputable def ref01_Compare : vals [yD5, yD5] → Option (OutK.val (.data true [(false, .I .i64)])) := funK ref01_Compare_G ref01_Compare_A fi123 123 0 [yD5, yD5] (.data true [(false, .I .i64)])
noncomputable def ref01_Compare_E : Entry := ⟨123, [yD5, yD5], .data true [(false, .I .i64)], ref01_Compare, 1⟩
def ref02_truth_A : AnnK := []
noncomputable def ref02_truth_G : KG := ⟨TT, EQS, [], []⟩
noncomputable def ref02_truth : vals [(false, .B)] → Option (OutK.val (.data true [yD5])) := funK ref02_truth_G ref02_truth_A fi124 124 0 [(false, .B)] (.data true [yD5])
noncomputable def ref02_truth_E : Entry := ⟨124, [(false, .B)], .data true [yD5], ref02_truth, 1⟩
def ref01_Add_A : AnnK := [(125, ⟨[⟨true, 3, 5, [2, 4, 5], ⟨[(6, false, [.d true (.I .i64)])], [], []⟩, [(.normal, ⟨[(6, false, [.d true (.I .i64)])], [], []⟩)]⟩], []⟩)]
noncomputable def ref01_Add_G : KG := ⟨TT, EQS, [], []⟩
noncomputable def ref01_Add : vals [yD5, yD5] → Option (OutK.val (.data true [yD5])) := funK ref01_Add_G ref01_Add_A fi125 125 0 [yD5, yD5] (.data true [yD5])
noncomputable def ref01_Add_E : Entry := ⟨125, [yD5, yD5], .data true [yD5], ref01_Add, 1⟩
def ref02_Add_A : AnnK := [(102, ⟨[⟨true, 3, 9, [4, 5, 6, 7], ⟨[], [], []⟩, [(.normal, ⟨[(9, false, [.d true .B])], [], []⟩)]⟩], []⟩)]
noncomputable def ref02_Add_G : KG := ⟨TT, EQS, [ref01_Compare_E, ref02_truth_E, ref01_Add_E], []⟩
noncomputable def ref02_Add : vals [(false, .I .i64), yD5, yD5] → Option (OutK.val (.data true [yD5])) := funK ref02_Add_G ref02_Add_A fi102 102 0 [(false, .I .i64), yD5, yD5] (.data true [yD5])
noncomputable def ref02_Add_E : Entry := ⟨102, [(false, .I .i64), yD5, yD5], .data true [yD5], ref02_Add, 2⟩
def ref01_Narrow_A : AnnK := []
noncomputable def ref01_Narrow_G : KG := ⟨TT, EQS, [], []⟩
noncomputable def ref01_Narrow : vals [yD5] → Option (OutK.val (.data true [(false, .I .i64), (false, .B)])) := funK ref01_Narrow_G ref01_Narrow_A fi103 103 0 [yD5] (.data true [(false, .I .i64), (false, .B)])
noncomputable def ref01_Narrow_E : Entry := ⟨103, [yD5], .data true [(false, .I .i64), (false, .B)], ref01_Narrow, 1⟩
def ref05_Combine_A : AnnK := [(66, ⟨[⟨false, 6, 0, [0, 1], ⟨[(6, false, [.m (.C (.I .i64) (.C (.I .i64) (.I .i64)))]), (7, false, [.m (.C (.I .i64) (.I .u64))]), (8, false, [.d true (.I .i64)])], [], []⟩, [(.exit 0, ⟨[(6, false, [.m (.C (.I .i64) (.C (.I .i64) (.I .i64)))]), (7, false, [.m (.C (.I .i64) (.I .u64))])], [], []⟩)]⟩, ⟨false, 9, 0, [0, 1, 6, 7, 8], ⟨[(9, false, [.d true (.I .i64)])], [], []⟩, [(.exit 2, ⟨[(9, false, [.d true (.I .i64)])], [], []⟩)]⟩, ⟨false, 17, 0, [0, 1, 6, 7, 8, 9, 10], ⟨[(11, false, [.d true (.I .i64)])], [], [(.sl 6 0, .C (.I .i64) (.C (.I .i64) (.I .i64))), (.sl 7 0, .C (.I .i64) (.I .u64))]⟩, [(.exit 4, ⟨[], [], [(.sl 6 0, .C (.I .i64) (.C (.I .i64) (.I .i64))), (.sl 7 0, .C (.I .i64) (.I .u64))]⟩)]⟩, ⟨false, 24, 0, [7], ⟨[(6, false, [.m (.C (.I .i64) (.C (.I .i64) (.I .i64)))]), (12, false, [.d true (.I .i64)])], [], []⟩, [(.exit 6, ⟨[(6, false, [.m (.C (.I .i64) (.C (.I .i64) (.I .i64)))])], [], []⟩), (.ret, ⟨[(4, false, [.m (.C (.I .i64) (.C (.I .i64) (.I .i64)))]), (5, false, [.d true (.I .i64)])], [], []⟩)]⟩], [(13, ⟨[[], [], [], [], [], [], [], [], [], [], [.sl 7 0]], [(false, []), (false, []), (false, []), (false, []), (false, []), (false, []), (false, []), (false, []), (false, []), (false, []), (false, [])]⟩), (21, ⟨[[], [], [], [], [], [], [], [], [], [], [], [], [], [], [.sl 6 0]], [(false, []), (false, []), (false, []), (false, []), (false, []), (false, []), (false, []), (false, []), (false, []), (false, []), (false, []), (false, []), (false, []), (false, []), (false, [])]⟩)]⟩)]
noncomputable def ref05_Combine_G : KG := ⟨TT, EQS, [ref02_Is_E, ref05_below_E, ref01_Of_E, ref02_Add_E, ref01_Narrow_E], []⟩
noncomputable def ref05_Combine : vals [(false, .I .i64), yD2] → Option (OutK.val (.data true [yD2, (false, .I .i64)])) := funK ref05_Combine_G ref05_Combine_A fi66 66 0 [(false, .I .i64), yD2] (.data true [yD2, (false, .I .i64)])
noncomputable def ref05_Combine_E : Entry := ⟨66, [(false, .I .i64), yD2], .data true [yD2, (false, .I .i64)], ref05_Combine, 3⟩
def ref07_built_A : AnnK := [(67, ⟨[⟨false, 3, 0, [0, 2, 6, 7], ⟨[(8, false, [.d true (.I .i64)])], [(7, [.d true (.I .i64), .d true (.I .i64), .o (.I .i64), .m (.I .i64), .m (.I .i64)])], []⟩, [(.exit 0, ⟨[], [(7, [.d true (.I .i64), .d true (.I .i64), .o (.I .i64), .m (.I .i64), .m (.I .i64)])], []⟩)]⟩, ⟨false, 8, 0, [0, 2, 6, 7, 8], ⟨[(9, false, [.d true (.I .i64)])], [], [(.bx 7 2, .I .i64)]⟩, [(.exit 2, ⟨[], [], [(.bx 7 2, .I .i64)]⟩)]⟩], [(5, ⟨[[], [], [], [], [], [], [], [], [.bx 7 3], [], [.sl 7 0]], [(false, []), (false, []), (false, []), (false, []), (false, []), (false, []), (false, []), (true, []), (true, []), (false, []), (false, [])]⟩), (6, ⟨[[], [], [], [], [], [], [], [], [.bx 7 4], [], [.sl 7 0]], [(false, []), (false, []), (false, []), (false, []), (false, []), (false, []), (false, []), (true, []), (true, []), (false, []), (false, [])]⟩)]⟩)]
noncomputable def ref07_built_G : KG := ⟨TT, EQS, [], [(81, fi81)]⟩
noncomputable def ref07_built : vals [(false, .I .i64), (false, .I .i64), yD2] → Option (OutK.val (.data true [yD1])) := funK ref07_built_G ref07_built_A fi67 67 6 [(false, .I .i64), (false, .I .i64), yD2] (.data true [yD1])
noncomputable def ref07_built_E : Entry := ⟨67, [(false, .I .i64), (false, .I .i64), yD2], .data true [yD1], ref07_built, 7⟩
def ref07_Of_A : AnnK := [(16, ⟨[⟨false, 9, 0, [0, 1, 2, 3, 8], ⟨[(10, false, [.m (.C (.I .i64) (.C (.I .i64) (.I .i64)))]), (11, false, [.d true (.I .i64)])], [(8, [.d true (.I .i64), .d true (.I .i64), .m (.I .i64), .m (.I .i64), .m (.I .i64)])], []⟩, [(.exit 0, ⟨[(10, false, [.m (.C (.I .i64) (.C (.I .i64) (.I .i64)))])], [(8, [.d true (.I .i64), .d true (.I .i64), .m (.I .i64), .m (.I .i64), .m (.I .i64)])], []⟩), (.ret, ⟨[(9, false, [.d true (.I .i64)])], [(8, [.d true (.I .i64), .d true (.I .i64), .m (.I .i64), .m (.I .i64), .m (.I .i64)])], []⟩)]⟩, ⟨false, 19, 0, [1, 2, 8, 10], ⟨[(13, false, [.m (.C (.I .i64) (.C (.I .i64) (.I .i64)))]), (14, false, [.d true (.I .i64)])], [], []⟩, [(.exit 2, ⟨[(13, false, [.m (.C (.I .i64) (.C (.I .i64) (.I .i64)))])], [], []⟩)]⟩], [(13, ⟨[[], [], [], [], [], [], [], [], [], [], [], [], [], [], [], [], [], [], [.sl 10 0], []], [(false, []), (false, []), (false, []), (false, []), (false, []), (false, []), (false, []), (false, []), (false, []), (false, []), (false, []), (false, []), (false, []), (false, []), (false, []), (false, []), (false, []), (true, []), (true, []), (false, [])]⟩), (21, ⟨[[], [], [], [], [], [], [], [], [], [], [], [], [], [], [], [], [], [], [.sl 13 0], []], [(false, []), (false, []), (false, []), (false, []), (false, []), (false, []), (false, []), (false, []), (false, []), (false, []), (false, []), (false, []), (false, []), (false, []), (false, []), (false, []), (false, []), (true, []), (true, []), (false, [])]⟩)]⟩)]
noncomputable def ref07_Of_G : KG := ⟨TT, EQS, [ref02_Is_E, ref05_Combine_E, ref07_built_E], []⟩
noncomputable def ref07_Of : vals [(false, .I .i64), (false, .I .i64), (false, .I .i64), yD2] → Option (OutK.val (.data true [yD1, (false, .I .i64)])) := funK ref07_Of_G ref07_Of_A fi16 16 0 [(false, .I .i64), (false, .I .i64), (false, .I .i64), yD2] (.data true [yD1, (false, .I .i64)])
noncomputable def ref07_Of_E : Entry := ⟨16, [(false, .I .i64), (false, .I .i64), (false, .I .i64), yD2], .data true [yD1, (false, .I .i64)], ref07_Of, 8⟩
def csr_rises_A : AnnK := [(73, ⟨[⟨false, 3, 0, [1, 8, 9], ⟨[(5, false, [.d true (.I .i64)]), (10, false, [.d true (.I .i64)])], [], []⟩, [(.exit 0, ⟨[], [], []⟩), (.ret, ⟨[(4, false, [.d true .B])], [], []⟩)]⟩], []⟩)]
noncomputable def csr_rises_G : KG := ⟨TT, EQS, [], []⟩
noncomputable def csr_rises : vals [(false, .S (.I .i64)), (false, .I .i64)] → Option (OutK.val (.data true [(false, .B)])) := funK csr_rises_G csr_rises_A fi73 73 0 [(false, .S (.I .i64)), (false, .I .i64)] (.data true [(false, .B)])
noncomputable def csr_rises_E : Entry := ⟨73, [(false, .S (.I .i64)), (false, .I .i64)], .data true [(false, .B)], csr_rises, 1⟩
def csr_Right_A : AnnK := [(21, ⟨[⟨false, 7, 0, [1, 3, 56], ⟨[(57, false, [.d true (.I .i64)])], [], []⟩, [(.exit 0, ⟨[], [], []⟩), (.ret, ⟨[(2, false, [.d true .B])], [], []⟩)]⟩], []⟩)]
noncomputable def csr_Right_G : KG := ⟨TT, EQS, [csr_size_E, csr_rises_E], []⟩
noncomputable def csr_Right : vals [yD1] → Option (OutK.val (.data true [(false, .B)])) := funK csr_Right_G csr_Right_A fi21 21 0 [yD1] (.data true [(false, .B)])
noncomputable def csr_Right_E : Entry := ⟨21, [yD1], .data true [(false, .B)], csr_Right, 2⟩
def csr_sure_A : AnnK := []
noncomputable def csr_sure_G : KG := ⟨TT, EQS, [csr_Right_E, csr_build_E], []⟩
noncomputable def csr_sure : vals [yD1] → Option (OutK.val (.data false [yD1])) := funK csr_sure_G csr_sure_A fi71 71 0 [yD1] (.data false [yD1])
noncomputable def csr_sure_E : Entry := ⟨71, [yD1], .data false [yD1], csr_sure, 8⟩
def csr_row_A : AnnK := []
noncomputable def csr_row_G : KG := ⟨TT, EQS, [], []⟩
noncomputable def csr_row : vals [yD1, (false, .I .i64)] → Option (OutK.val (.data false [(false, .S (.I .i64)), (false, .S (.I .i64))])) := funK csr_row_G csr_row_A fi70 70 0 [yD1, (false, .I .i64)] (.data false [(false, .S (.I .i64)), (false, .S (.I .i64))])
noncomputable def csr_row_E : Entry := ⟨70, [yD1, (false, .I .i64)], .data false [(false, .S (.I .i64)), (false, .S (.I .i64))], csr_row, 1⟩
def csr_Turn_A : AnnK := [(31, ⟨[⟨false, 4, 0, [1, 2, 3, 32, 33], ⟨[(34, false, [.d true (.I .i64)])], [], [(.bx 3 2, .I .i64)]⟩, [(.exit 0, ⟨[], [], [(.bx 3 2, .I .i64)]⟩)]⟩, ⟨false, 11, 0, [1, 2, 3, 6, 54], ⟨[(55, false, [.d true (.I .i64)])], [], [(.bx 3 3, .I .i64), (.bx 3 4, .I .i64), (.sl 6 0, .I .i64)]⟩, [(.exit 2, ⟨[], [], [(.bx 3 3, .I .i64), (.bx 3 4, .I .i64)]⟩)]⟩, ⟨false, 15, 0, [1, 2, 3, 6, 7, 9, 54, 55, 64, 65], ⟨[(66, false, [.d true (.I .i64)])], [], [(.bx 3 3, .I .i64), (.bx 3 4, .I .i64), (.sl 6 0, .I .i64)]⟩, [(.exit 4, ⟨[], [], [(.bx 3 3, .I .i64), (.bx 3 4, .I .i64), (.sl 6 0, .I .i64)]⟩)]⟩], [(2, ⟨[[], [], [], [], [], [], [], [], [], [], [], [], [], [], [], [], [], [], []], [(false, []), (false, []), (false, []), (false, []), (false, []), (false, []), (false, []), (true, []), (false, []), (false, []), (false, []), (true, []), (false, []), (false, []), (false, []), (true, []), (false, []), (true, []), (false, [17])]⟩), (17, ⟨[[], [], [], [], [], [], [], [], [], [], [], [], [], [], [], [], [], [], [.bx 3 3], [], [.bx 3 4]], [(false, []), (false, []), (false, []), (false, []), (false, []), (false, []), (false, []), (false, []), (false, []), (false, []), (false, []), (false, []), (false, []), (false, []), (false, []), (false, []), (false, []), (false, []), (false, []), (false, []), (false, [])]⟩)]⟩), (75, ⟨[⟨false, 1, 0, [0], ⟨[(2, false, [.d true (.I .i64)])], [], [(.sl 0 0, .I .i64)]⟩, [(.exit 0, ⟨[], [], [(.sl 0 0, .I .i64)]⟩)]⟩], [(3, ⟨[[], [], [], [], [], [], [], [], [], [], [], [.sl 0 0]], [(false, []), (false, []), (false, []), (false, []), (false, []), (false, []), (false, []), (false, []), (false, []), (false, []), (false, []), (false, [])]⟩)]⟩)]
noncomputable def csr_Turn_G : KG := ⟨TT, EQS, [csr_row_E, csr_sure_E], [(75, fi75), (76, fi76)]⟩
noncomputable def csr_Turn : vals [yD1] → Option (OutK.val (.data true [yD1])) := funK csr_Turn_G csr_Turn_A fi31 31 6 [yD1] (.data true [yD1])
noncomputable def csr_Turn_E : Entry := ⟨31, [yD1], .data true [yD1], csr_Turn, 15⟩
def slices_Equal_int_int_A : AnnK := [(78, ⟨[⟨false, 4, 0, [0, 1, 12], ⟨[(13, false, [.d true (.I .i64)])], [], []⟩, [(.exit 0, ⟨[], [], []⟩), (.ret, ⟨[(4, false, [.d true .B])], [], []⟩)]⟩], []⟩)]
noncomputable def slices_Equal_int_int_G : KG := ⟨TT, EQS, [], []⟩
noncomputable def slices_Equal_int_int : vals [(false, .S (.I .i64)), (false, .S (.I .i64))] → Option (OutK.val (.data true [(false, .B)])) := funK slices_Equal_int_int_G slices_Equal_int_int_A fi78 78 0 [(false, .S (.I .i64)), (false, .S (.I .i64))] (.data true [(false, .B)])
noncomputable def slices_Equal_int_int_E : Entry := ⟨78, [(false, .S (.I .i64)), (false, .S (.I .i64))], .data true [(false, .B)], slices_Equal_int_int, 1⟩
def slices_Equal_int64_int64_A : AnnK := [(79, ⟨[⟨false, 4, 0, [0, 1, 12], ⟨[(13, false, [.d true (.I .i64)])], [], []⟩, [(.exit 0, ⟨[], [], []⟩), (.ret, ⟨[(4, false, [.d true .B])], [], []⟩)]⟩], []⟩)]
noncomputable def slices_Equal_int64_int64_G : KG := ⟨TT, EQS, [], []⟩
noncomputable def slices_Equal_int64_int64 : vals [(false, .S (.I .i64)), (false, .S (.I .i64))] → Option (OutK.val (.data true [(false, .B)])) := funK slices_Equal_int64_int64_G slices_Equal_int64_int64_A fi79 79 0 [(false, .S (.I .i64)), (false, .S (.I .i64))] (.data true [(false, .B)])
noncomputable def slices_Equal_int64_int64_E : Entry := ⟨79, [(false, .S (.I .i64)), (false, .S (.I .i64))], .data true [(false, .B)], slices_Equal_int64_int64, 1⟩
def ref03_SameInts_A : AnnK := [(68, ⟨[⟨false, 4, 0, [0, 1], ⟨[(5, false, [.d true (.I .i64)])], [], []⟩, [(.exit 0, ⟨[], [], []⟩), (.ret, ⟨[(4, false, [.d true .B])], [], []⟩)]⟩], []⟩)]
noncomputable def ref03_SameInts_G : KG := ⟨TT, EQS, [], []⟩
noncomputable def ref03_SameInts : vals [(false, .S (.I .i64)), (false, .S (.I .i64))] → Option (OutK.val (.data true [(false, .B)])) := funK ref03_SameInts_G ref03_SameInts_A fi68 68 0 [(false, .S (.I .i64)), (false, .S (.I .i64))] (.data true [(false, .B)])
noncomputable def ref03_SameInts_E : Entry := ⟨68, [(false, .S (.I .i64)), (false, .S (.I .i64))], .data true [(false, .B)], ref03_SameInts, 1⟩
def ref07_SameVals_A : AnnK := [(69, ⟨[⟨false, 4, 0, [0, 1], ⟨[(5, false, [.d true (.I .i64)])], [], []⟩, [(.exit 0, ⟨[], [], []⟩), (.ret, ⟨[(4, false, [.d true .B])], [], []⟩)]⟩], []⟩)]
noncomputable def ref07_SameVals_G : KG := ⟨TT, EQS, [], []⟩
noncomputable def ref07_SameVals : vals [(false, .S (.I .i64)), (false, .S (.I .i64))] → Option (OutK.val (.data true [(false, .B)])) := funK ref07_SameVals_G ref07_SameVals_A fi69 69 0 [(false, .S (.I .i64)), (false, .S (.I .i64))] (.data true [(false, .B)])
noncomputable def ref07_SameVals_E : Entry := ⟨69, [(false, .S (.I .i64)), (false, .S (.I .i64))], .data true [(false, .B)], ref07_SameVals, 1⟩
def ref07_Same_A : AnnK := []
noncomputable def ref07_Same_G : KG := ⟨TT, EQS, [ref03_SameInts_E, ref07_SameVals_E], []⟩
noncomputable def ref07_Same : vals [yD1, yD1] → Option (OutK.val (.data true [(false, .B)])) := funK ref07_Same_G ref07_Same_A fi18 18 0 [yD1, yD1] (.data true [(false, .B)])
noncomputable def ref07_Same_E : Entry := ⟨18, [yD1, yD1], .data true [(false, .B)], ref07_Same, 2⟩
def ref07_Right_A : AnnK := [(22, ⟨[⟨false, 6, 0, [1], ⟨[(3, false, [.d true (.I .i64)])], [], []⟩, [(.exit 0, ⟨[], [], []⟩), (.ret, ⟨[(2, false, [.d true .B])], [], []⟩)]⟩, ⟨false, 11, 0, [1, 3], ⟨[(4, false, [.d true (.I .i64)])], [], []⟩, [(.exit 2, ⟨[], [], []⟩), (.ret, ⟨[(2, false, [.d true .B])], [], []⟩)]⟩], []⟩)]
noncomputable def ref07_Right_G : KG := ⟨TT, EQS, [], []⟩
noncomputable def ref07_Right : vals [yD1] → Option (OutK.val (.data true [(false, .B)])) := funK ref07_Right_G ref07_Right_A fi22 22 0 [yD1] (.data true [(false, .B)])
noncomputable def ref07_Right_E : Entry := ⟨22, [yD1], .data true [(false, .B)], ref07_Right, 1⟩
def ref07_Sure_A : AnnK := []
noncomputable def ref07_Sure_G : KG := ⟨TT, EQS, [ref07_Right_E], [(81, fi81)]⟩
noncomputable def ref07_Sure : vals [yD1] → Option (OutK.val (.data false [yD1])) := funK ref07_Sure_G ref07_Sure_A fi74 74 6 [yD1] (.data false [yD1])
noncomputable def ref07_Sure_E : Entry := ⟨74, [yD1], .data false [yD1], ref07_Sure, 8⟩
def ref07_Row_A : AnnK := [(27, ⟨[⟨false, 6, 0, [1, 2], ⟨[(5, false, [.m (.C (.I .i64) (.I .i64))]), (6, false, [.d true (.I .i64)])], [], []⟩, [(.exit 0, ⟨[(5, false, [.m (.C (.I .i64) (.I .i64))])], [], []⟩)]⟩], [(8, ⟨[[], [], [], [], [], [], [], [], [], [], [], [], [], [.sl 5 0], []], [(false, []), (false, []), (false, []), (false, []), (false, []), (false, []), (false, []), (false, []), (false, []), (false, []), (false, []), (false, []), (true, []), (true, []), (false, [])]⟩)]⟩)]
noncomputable def ref07_Row_G : KG := ⟨TT, EQS, [ref07_Sure_E], []⟩
noncomputable def ref07_Row : vals [yD1, (false, .I .i64)] → Option (OutK.val (.mown (.C (.I .i64) (.I .i64)))) := funK ref07_Row_G ref07_Row_A fi27 27 0 [yD1, (false, .I .i64)] (.mown (.C (.I .i64) (.I .i64)))
noncomputable def ref07_Row_E : Entry := ⟨27, [yD1, (false, .I .i64)], .mown (.C (.I .i64) (.I .i64)), ref07_Row, 9⟩
def ref07_SameItems_A : AnnK := [(25, ⟨[⟨false, 4, 0, [0, 1], ⟨[(5, false, [.d true (.I .i64)])], [], []⟩, [(.exit 0, ⟨[], [], []⟩), (.ret, ⟨[(4, false, [.d true .B])], [], []⟩)]⟩], []⟩)]
noncomputable def ref07_SameItems_G : KG := ⟨TT, EQS, [], []⟩
noncomputable def ref07_SameItems : vals [yD4, yD4] → Option (OutK.val (.data true [(false, .B)])) := funK ref07_SameItems_G ref07_SameItems_A fi25 25 0 [yD4, yD4] (.data true [(false, .B)])
noncomputable def ref07_SameItems_E : Entry := ⟨25, [yD4, yD4], .data true [(false, .B)], ref07_SameItems, 1⟩
def ref07_Triples_A : AnnK := [(30, ⟨[⟨false, 4, 0, [1], ⟨[(3, false, [.m (.C (.I .i64) (.C (.I .i64) (.I .i64)))]), (4, false, [.d true (.I .i64)])], [], []⟩, [(.exit 0, ⟨[(3, false, [.m (.C (.I .i64) (.C (.I .i64) (.I .i64)))])], [], []⟩)]⟩, ⟨false, 7, 0, [1, 4], ⟨[(3, false, [.m (.C (.I .i64) (.C (.I .i64) (.I .i64)))]), (5, false, [.d true (.I .i64)])], [], []⟩, [(.exit 2, ⟨[(3, false, [.m (.C (.I .i64) (.C (.I .i64) (.I .i64)))])], [], []⟩)]⟩], [(9, ⟨[[], [], [], [], [], [], [], [], [], [], [], [], [], [], [.sl 3 0], []], [(false, []), (false, []), (false, []), (false, []), (false, []), (false, []), (false, []), (false, []), (false, []), (false, []), (false, []), (false, []), (false, []), (true, []), (true, []), (false, [])]⟩)]⟩)]
noncomputable def ref07_Triples_G : KG := ⟨TT, EQS, [ref07_Sure_E], []⟩
noncomputable def ref07_Triples : vals [yD1] → Option (OutK.val (.mown (.C (.I .i64) (.C (.I .i64) (.I .i64))))) := funK ref07_Triples_G ref07_Triples_A fi30 30 0 [yD1] (.mown (.C (.I .i64) (.C (.I .i64) (.I .i64))))
noncomputable def ref07_Triples_E : Entry := ⟨30, [yD1], .mown (.C (.I .i64) (.C (.I .i64) (.I .i64))), ref07_Triples, 9⟩
def ref07_Turn_A : AnnK := [(32, ⟨[⟨false, 5, 0, [1, 2, 3], ⟨[(4, false, [.m (.C (.I .i64) (.C (.I .i64) (.I .i64)))]), (5, false, [.d true (.I .i64)])], [], []⟩, [(.exit 0, ⟨[(4, false, [.m (.C (.I .i64) (.C (.I .i64) (.I .i64)))])], [], []⟩)]⟩, ⟨false, 8, 0, [1, 2, 3, 5], ⟨[(4, false, [.m (.C (.I .i64) (.C (.I .i64) (.I .i64)))]), (6, false, [.d true (.I .i64)])], [], []⟩, [(.exit 2, ⟨[(4, false, [.m (.C (.I .i64) (.C (.I .i64) (.I .i64)))])], [], []⟩)]⟩], [(11, ⟨[[], [], [], [], [], [], [], [], [], [], [], [], [], [], [.sl 4 0], []], [(false, []), (false, []), (false, []), (false, []), (false, []), (false, []), (false, []), (false, []), (false, []), (false, []), (false, []), (false, []), (false, []), (true, []), (true, []), (false, [])]⟩)]⟩)]
noncomputable def ref07_Turn_G : KG := ⟨TT, EQS, [ref07_Triples_E, ref07_built_E, ref07_Sure_E], []⟩
noncomputable def ref07_Turn : vals [yD1] → Option (OutK.val (.data true [yD1])) := funK ref07_Turn_G ref07_Turn_A fi32 32 0 [yD1] (.data true [yD1])
noncomputable def ref07_Turn_E : Entry := ⟨32, [yD1], .data true [yD1], ref07_Turn, 10⟩
def law07_Size_A : AnnK := []
noncomputable def law07_Size_G : KG := ⟨TT, EQS, [], []⟩
noncomputable def law07_Size : vals [(false, .I .u8)] → Option (OutK.val (.data true [(false, .I .i64)])) := funK law07_Size_G law07_Size_A fi41 41 0 [(false, .I .u8)] (.data true [(false, .I .i64)])
noncomputable def law07_Size_E : Entry := ⟨41, [(false, .I .u8)], .data true [(false, .I .i64)], law07_Size, 1⟩
def law07_Some_A : AnnK := [(39, ⟨[⟨false, 5, 0, [1, 4, 5, 6], ⟨[(7, false, [.m (.C (.I .i64) (.C (.I .i64) (.I .i64)))]), (8, false, [.d true (.I .i64)])], [], []⟩, [(.exit 0, ⟨[(7, false, [.m (.C (.I .i64) (.C (.I .i64) (.I .i64)))])], [], []⟩)]⟩], []⟩)]
noncomputable def law07_Some_G : KG := ⟨TT, EQS, [law07_Few_E, ref07_Of_E, law07_Size_E], [(81, fi81)]⟩
noncomputable def law07_Some : vals [yD6, yD2] → Option (OutK.val (.data true [yD1])) := funK law07_Some_G law07_Some_A fi39 39 6 [yD6, yD2] (.data true [yD1])
noncomputable def law07_Some_E : Entry := ⟨39, [yD6, yD2], .data true [yD1], law07_Some, 15⟩
def dcsc_size_A : AnnK := []
noncomputable def dcsc_size_G : KG := ⟨TT, EQS, [], []⟩
noncomputable def dcsc_size : vals [(false, .I .i64)] → Option (OutK.val (.data true [(false, .B)])) := funK dcsc_size_G dcsc_size_A fi85 85 0 [(false, .I .i64)] (.data true [(false, .B)])
noncomputable def dcsc_size_E : Entry := ⟨85, [(false, .I .i64)], .data true [(false, .B)], dcsc_size, 1⟩
def dcsc_rises_A : AnnK := [(86, ⟨[⟨false, 3, 0, [1, 8, 9], ⟨[(5, false, [.d true (.I .i64)]), (10, false, [.d true (.I .i64)])], [], []⟩, [(.exit 0, ⟨[], [], []⟩), (.ret, ⟨[(4, false, [.d true .B])], [], []⟩)]⟩], []⟩)]
noncomputable def dcsc_rises_G : KG := ⟨TT, EQS, [], []⟩
noncomputable def dcsc_rises : vals [(false, .S (.I .i64)), (false, .I .i64)] → Option (OutK.val (.data true [(false, .B)])) := funK dcsc_rises_G dcsc_rises_A fi86 86 0 [(false, .S (.I .i64)), (false, .I .i64)] (.data true [(false, .B)])
noncomputable def dcsc_rises_E : Entry := ⟨86, [(false, .S (.I .i64)), (false, .I .i64)], .data true [(false, .B)], dcsc_rises, 1⟩
def dcsc_Right_A : AnnK := [(48, ⟨[⟨false, 7, 0, [1, 3, 67], ⟨[(68, false, [.d true (.I .i64)])], [], []⟩, [(.exit 0, ⟨[], [], []⟩), (.ret, ⟨[(2, false, [.d true .B])], [], []⟩)]⟩], []⟩)]
noncomputable def dcsc_Right_G : KG := ⟨TT, EQS, [dcsc_size_E, dcsc_rises_E], []⟩
noncomputable def dcsc_Right : vals [yD0] → Option (OutK.val (.data true [(false, .B)])) := funK dcsc_Right_G dcsc_Right_A fi48 48 0 [yD0] (.data true [(false, .B)])
noncomputable def dcsc_Right_E : Entry := ⟨48, [yD0], .data true [(false, .B)], dcsc_Right, 2⟩
def dcsc_sure_A : AnnK := []
noncomputable def dcsc_sure_G : KG := ⟨TT, EQS, [dcsc_Right_E], []⟩
noncomputable def dcsc_sure : vals [yD0] → Option (OutK.val (.data false [yD0])) := funK dcsc_sure_G dcsc_sure_A fi82 82 0 [yD0] (.data false [yD0])
noncomputable def dcsc_sure_E : Entry := ⟨82, [yD0], .data false [yD0], dcsc_sure, 3⟩
def dcsc_find_A : AnnK := [(83, ⟨[⟨false, 2, 0, [1, 2], ⟨[(4, false, [.d true (.I .i64)]), (5, false, [.d true (.I .i64)]), (6, false, [.d true (.I .i64)]), (7, false, [.d true (.I .i64)])], [], []⟩, [(.exit 0, ⟨[(4, false, [.d true (.I .i64)]), (5, false, [.d true (.I .i64)])], [], []⟩)]⟩], []⟩)]
noncomputable def dcsc_find_G : KG := ⟨TT, EQS, [], []⟩
noncomputable def dcsc_find : vals [yD0, (false, .I .i64)] → Option (OutK.val (.data true [(false, .I .i64), (false, .I .i64)])) := funK dcsc_find_G dcsc_find_A fi83 83 0 [yD0, (false, .I .i64)] (.data true [(false, .I .i64), (false, .I .i64)])
noncomputable def dcsc_find_E : Entry := ⟨83, [yD0, (false, .I .i64)], .data true [(false, .I .i64), (false, .I .i64)], dcsc_find, 1⟩
def dcsc_Column_A : AnnK := [(43, ⟨[⟨false, 5, 0, [2, 6], ⟨[(7, false, [.o (.C (.I .i64) (.I .i64))]), (8, false, [.d true (.I .i64)])], [], []⟩, [(.exit 0, ⟨[(7, false, [.o (.C (.I .i64) (.I .i64))])], [], []⟩)]⟩], [(7, ⟨[[], [], [], [], [], [], [], [], [], [], [], [], [], [.sl 7 0], []], [(false, []), (false, []), (false, []), (false, []), (false, []), (false, []), (false, []), (false, []), (false, []), (false, []), (false, []), (false, []), (true, []), (true, []), (false, [])]⟩)]⟩)]
noncomputable def dcsc_Column_G : KG := ⟨TT, EQS, [dcsc_sure_E, dcsc_find_E], []⟩
noncomputable def dcsc_Column : vals [yD0, (false, .I .i64)] → Option (OutK.val (.own (.C (.I .i64) (.I .i64)))) := funK dcsc_Column_G dcsc_Column_A fi43 43 0 [yD0, (false, .I .i64)] (.own (.C (.I .i64) (.I .i64)))
noncomputable def dcsc_Column_E : Entry := ⟨43, [yD0, (false, .I .i64)], .own (.C (.I .i64) (.I .i64)), dcsc_Column, 4⟩
def dcsc_Many_A : AnnK := []
noncomputable def dcsc_Many_G : KG := ⟨TT, EQS, [dcsc_sure_E], []⟩
noncomputable def dcsc_Many : vals [yD0] → Option (OutK.val (.data true [(false, .I .i64)])) := funK dcsc_Many_G dcsc_Many_A fi52 52 0 [yD0] (.data true [(false, .I .i64)])
noncomputable def dcsc_Many_E : Entry := ⟨52, [yD0], .data true [(false, .I .i64)], dcsc_Many, 4⟩
def dcsc_Count_A : AnnK := []
noncomputable def dcsc_Count_G : KG := ⟨TT, EQS, [dcsc_sure_E], []⟩
noncomputable def dcsc_Count : vals [yD0] → Option (OutK.val (.data true [(false, .I .i64)])) := funK dcsc_Count_G dcsc_Count_A fi54 54 0 [yD0] (.data true [(false, .I .i64)])
noncomputable def dcsc_Count_E : Entry := ⟨54, [yD0], .data true [(false, .I .i64)], dcsc_Count, 4⟩
def dcsc_Back_A : AnnK := [(50, ⟨[⟨false, 4, 0, [1, 2, 3, 23, 24], ⟨[(25, false, [.d true (.I .i64)])], [], [(.bx 3 2, .I .i64)]⟩, [(.exit 0, ⟨[], [], [(.bx 3 2, .I .i64)]⟩)]⟩, ⟨false, 9, 0, [2, 3, 43], ⟨[(44, false, [.d true (.I .i64)])], [], [(.bx 3 2, .I .i64)]⟩, [(.exit 2, ⟨[], [], [(.bx 3 2, .I .i64)]⟩)]⟩], [(2, ⟨[[], [], [], [], [], [], [], [], [], [], [], [], [], [], []], [(false, []), (false, []), (false, []), (false, []), (false, []), (false, []), (false, []), (true, []), (false, []), (false, []), (false, []), (false, []), (false, []), (true, []), (false, [13])]⟩), (6, ⟨[[], [], [], [], [], [], [], [], [], [], [], [.bx 3 2]], [(false, []), (false, []), (false, []), (false, []), (false, []), (false, []), (false, []), (false, []), (false, []), (false, []), (false, []), (false, [])]⟩), (11, ⟨[[], [], [], [], [], [], [], [], [], [], [], [], [], [], [], [], [], [.bx 3 2]], [(false, []), (false, []), (false, []), (false, []), (false, []), (false, []), (false, []), (false, []), (false, []), (false, []), (false, []), (false, []), (false, []), (false, []), (false, []), (false, []), (false, []), (false, [])]⟩)]⟩)]
noncomputable def dcsc_Back_G : KG := ⟨TT, EQS, [csr_Turn_E, dcsc_sure_E], []⟩
noncomputable def dcsc_Back : vals [yD0] → Option (OutK.val (.data true [yD1])) := funK dcsc_Back_G dcsc_Back_A fi50 50 0 [yD0] (.data true [yD1])
noncomputable def dcsc_Back_E : Entry := ⟨50, [yD0], .data true [yD1], dcsc_Back, 16⟩
def dcsc_Work_A : AnnK := [(55, ⟨[⟨false, 4, 0, [2, 12, 13], ⟨[(5, false, [.d true (.I .i64)]), (14, false, [.d true (.I .i64)])], [], []⟩, [(.exit 0, ⟨[(5, false, [.d true (.I .i64)])], [], []⟩)]⟩], []⟩)]
noncomputable def dcsc_Work_G : KG := ⟨TT, EQS, [dcsc_sure_E, dcsc_find_E], []⟩
noncomputable def dcsc_Work : vals [yD0, (false, .S (.I .i64))] → Option (OutK.val (.data true [(false, .I .i64)])) := funK dcsc_Work_G dcsc_Work_A fi55 55 0 [yD0, (false, .S (.I .i64))] (.data true [(false, .I .i64)])
noncomputable def dcsc_Work_E : Entry := ⟨55, [yD0, (false, .S (.I .i64))], .data true [(false, .I .i64)], dcsc_Work, 4⟩
def dcsc_Same_A : AnnK := [(57, ⟨[], [(1, ⟨[[], [], [], [], [.sl 2 0], [.sl 3 0]], [(false, []), (false, []), (false, []), (false, []), (false, []), (false, [])]⟩)]⟩)]
noncomputable def dcsc_Same_G : KG := ⟨TT, EQS, [slices_Equal_int_int_E, slices_Equal_int64_int64_E, dcsc_sure_E], []⟩
noncomputable def dcsc_Same : vals [yD0, yD0] → Option (OutK.val (.data true [(false, .B)])) := funK dcsc_Same_G dcsc_Same_A fi57 57 0 [yD0, yD0] (.data true [(false, .B)])
noncomputable def dcsc_Same_E : Entry := ⟨57, [yD0, yD0], .data true [(false, .B)], dcsc_Same, 4⟩
def ref08_Right_A : AnnK := [(49, ⟨[⟨false, 6, 0, [1], ⟨[(3, false, [.d true (.I .i64)])], [], []⟩, [(.exit 0, ⟨[], [], []⟩), (.ret, ⟨[(2, false, [.d true .B])], [], []⟩)]⟩, ⟨false, 13, 0, [1, 3], ⟨[(4, false, [.d true (.I .i64)])], [], []⟩, [(.exit 2, ⟨[], [], []⟩), (.ret, ⟨[(2, false, [.d true .B])], [], []⟩)]⟩], []⟩)]
noncomputable def ref08_Right_G : KG := ⟨TT, EQS, [], []⟩
noncomputable def ref08_Right : vals [yD0] → Option (OutK.val (.data true [(false, .B)])) := funK ref08_Right_G ref08_Right_A fi49 49 0 [yD0] (.data true [(false, .B)])
noncomputable def ref08_Right_E : Entry := ⟨49, [yD0], .data true [(false, .B)], ref08_Right, 1⟩
def ref08_Sure_A : AnnK := []
noncomputable def ref08_Sure_G : KG := ⟨TT, EQS, [ref08_Right_E], []⟩
noncomputable def ref08_Sure : vals [yD0] → Option (OutK.val (.data false [yD0])) := funK ref08_Sure_G ref08_Sure_A fi53 53 0 [yD0] (.data false [yD0])
noncomputable def ref08_Sure_E : Entry := ⟨53, [yD0], .data false [yD0], ref08_Sure, 2⟩
def ref08_Column_A : AnnK := [(44, ⟨[⟨false, 4, 0, [1, 2], ⟨[(5, false, [.m (.C (.I .i64) (.I .i64))]), (6, false, [.d true (.I .i64)])], [], []⟩, [(.exit 0, ⟨[(5, false, [.m (.C (.I .i64) (.I .i64))])], [], []⟩)]⟩, ⟨false, 7, 0, [1, 2, 6], ⟨[(5, false, [.m (.C (.I .i64) (.I .i64))]), (7, false, [.d true (.I .i64)])], [], []⟩, [(.exit 2, ⟨[(5, false, [.m (.C (.I .i64) (.I .i64))])], [], []⟩)]⟩], [(9, ⟨[[], [], [], [], [], [], [], [], [], [], [], [], [], [.sl 5 0], []], [(false, []), (false, []), (false, []), (false, []), (false, []), (false, []), (false, []), (false, []), (false, []), (false, []), (false, []), (false, []), (true, []), (true, []), (false, [])]⟩)]⟩)]
noncomputable def ref08_Column_G : KG := ⟨TT, EQS, [ref08_Sure_E], []⟩
noncomputable def ref08_Column : vals [yD0, (false, .I .i64)] → Option (OutK.val (.mown (.C (.I .i64) (.I .i64)))) := funK ref08_Column_G ref08_Column_A fi44 44 0 [yD0, (false, .I .i64)] (.mown (.C (.I .i64) (.I .i64)))
noncomputable def ref08_Column_E : Entry := ⟨44, [yD0, (false, .I .i64)], .mown (.C (.I .i64) (.I .i64)), ref08_Column, 3⟩
def ref08_Of_A : AnnK := [(47, ⟨[⟨false, 4, 0, [2, 3, 4], ⟨[(5, false, [.d true (.I .i64)])], [(4, [.d true (.I .i64), .d true (.I .i64), .m (.I .i64), .o (.I .i64), .m (.I .i64), .m (.I .i64)])], []⟩, [(.exit 0, ⟨[], [(4, [.d true (.I .i64), .d true (.I .i64), .m (.I .i64), .o (.I .i64), .m (.I .i64), .m (.I .i64)])], []⟩)]⟩, ⟨false, 10, 0, [2, 3, 4, 5, 6], ⟨[(7, false, [.d true (.I .i64)])], [(4, [.d true (.I .i64), .d true (.I .i64), .o (.I .i64), .o (.I .i64), .m (.I .i64), .m (.I .i64)])], []⟩, [(.exit 2, ⟨[], [(4, [.d true (.I .i64), .d true (.I .i64), .o (.I .i64), .o (.I .i64), .m (.I .i64), .m (.I .i64)])], []⟩)]⟩], [(12, ⟨[[], [], [], [], [], [], [], [], [.bx 4 4], [], [.sl 4 0]], [(false, []), (false, []), (false, []), (false, []), (false, []), (false, []), (false, []), (true, []), (true, []), (false, []), (false, [])]⟩), (13, ⟨[[], [], [], [], [], [], [], [], [.bx 4 5], [], [.sl 4 0]], [(false, []), (false, []), (false, []), (false, []), (false, []), (false, []), (false, []), (true, []), (true, []), (false, []), (false, [])]⟩)]⟩)]
noncomputable def ref08_Of_G : KG := ⟨TT, EQS, [ref07_Row_E, ref07_Turn_E], []⟩
noncomputable def ref08_Of : vals [yD1] → Option (OutK.val (.data true [yD0])) := funK ref08_Of_G ref08_Of_A fi47 47 0 [yD1] (.data true [yD0])
noncomputable def ref08_Of_E : Entry := ⟨47, [yD1], .data true [yD0], ref08_Of, 11⟩
def ref08_Same_A : AnnK := []
noncomputable def ref08_Same_G : KG := ⟨TT, EQS, [ref03_SameInts_E, ref07_SameVals_E], []⟩
noncomputable def ref08_Same : vals [yD0, yD0] → Option (OutK.val (.data true [(false, .B)])) := funK ref08_Same_G ref08_Same_A fi45 45 0 [yD0, yD0] (.data true [(false, .B)])
noncomputable def ref08_Same_E : Entry := ⟨45, [yD0, yD0], .data true [(false, .B)], ref08_Same, 2⟩
def ref08_Back_A : AnnK := [(51, ⟨[⟨false, 4, 0, [1, 2], ⟨[(3, false, [.m (.C (.I .i64) (.C (.I .i64) (.I .i64)))]), (4, false, [.d true (.I .i64)])], [], []⟩, [(.exit 0, ⟨[(3, false, [.m (.C (.I .i64) (.C (.I .i64) (.I .i64)))])], [], []⟩)]⟩, ⟨false, 7, 0, [1, 2, 4], ⟨[(3, false, [.m (.C (.I .i64) (.C (.I .i64) (.I .i64)))]), (5, false, [.d true (.I .i64)])], [], []⟩, [(.exit 2, ⟨[(3, false, [.m (.C (.I .i64) (.C (.I .i64) (.I .i64)))])], [], []⟩)]⟩], [(9, ⟨[[], [], [], [], [], [], [], [], [], [], [], [], [], [], [], [], [], [], [.sl 3 0], []], [(false, []), (false, []), (false, []), (false, []), (false, []), (false, []), (false, []), (false, []), (false, []), (false, []), (false, []), (false, []), (false, []), (false, []), (false, []), (false, []), (false, []), (true, []), (true, []), (false, [])]⟩)]⟩)]
noncomputable def ref08_Back_G : KG := ⟨TT, EQS, [ref07_Of_E, ref08_Sure_E], []⟩
noncomputable def ref08_Back : vals [yD0] → Option (OutK.val (.data true [yD1])) := funK ref08_Back_G ref08_Back_A fi51 51 0 [yD0] (.data true [yD1])
noncomputable def ref08_Back_E : Entry := ⟨51, [yD0], .data true [yD1], ref08_Back, 9⟩
end K
end Ev
end Go.Proofs.Ytlkcneneagifoaa
end
section
namespace Go.Proofs.Ytlkcneneagifoaa
namespace Ev
namespace K
open Go Go.RowKit
set_option linter.unusedVariables false
set_option linter.unusedSimpArgs false
set_option maxRecDepth 100000
set_option maxHeartbeats 1000000
theorem law07_Few_Gok : GOk law07_Few_G E1 0 := gok E1_ok TT_ok EQS_ok trivial trivial
theorem law07_Few_ok : EntryOk E1 law07_Few_E := mkE_ok law07_Few_Gok (by kernel_rfl) fn14 (by kernel_rfl) rfl
theorem csr_size_Gok : GOk csr_size_G E1 0 := gok E1_ok TT_ok EQS_ok trivial trivial
theorem csr_size_ok : EntryOk E1 csr_size_E := mkE_ok csr_size_Gok (by kernel_rfl) fn63 (by kernel_rfl) rfl
theorem csr_build_Gok : GOk csr_build_G E1 0 := gok E1_ok TT_ok EQS_ok trivial ⟨⟨fn75, rfl⟩, trivial⟩
theorem csr_build_ok : EntryOk E1 csr_build_E := mkE_ok csr_build_Gok (by kernel_rfl) fn65 (by kernel_rfl) rfl
theorem ref02_Is_Gok : GOk ref02_Is_G E1 0 := gok E1_ok TT_ok EQS_ok trivial trivial
theorem ref02_Is_ok : EntryOk E1 ref02_Is_E := mkE_ok ref02_Is_Gok (by kernel_rfl) fn40 (by kernel_rfl) rfl
theorem ref05_below_Gok : GOk ref05_below_G E1 0 := gok E1_ok TT_ok EQS_ok trivial trivial
theorem ref05_below_ok : EntryOk E1 ref05_below_E := mkE_ok ref05_below_Gok (by kernel_rfl) fn100 (by kernel_rfl) rfl
theorem ref01_Of_Gok : GOk ref01_Of_G E1 0 := gok E1_ok TT_ok EQS_ok trivial trivial
theorem ref01_Of_ok : EntryOk E1 ref01_Of_E := mkE_ok ref01_Of_Gok (by kernel_rfl) fn101 (by kernel_rfl) rfl
theorem ref01_Compare_Gok : GOk ref01_Compare_G E1 0 := gok E1_ok TT_ok EQS_ok trivial trivial
theorem ref01_Compare_ok : EntryOk E1 ref01_Compare_E := mkE_ok ref01_Compare_Gok (by kernel_rfl) fn123 (by kernel_rfl) rfl
theorem ref02_truth_Gok : GOk ref02_truth_G E1 0 := gok E1_ok TT_ok EQS_ok trivial trivial
theorem ref02_truth_ok : EntryOk E1 ref02_truth_E := mkE_ok ref02_truth_Gok (by kernel_rfl) fn124 (by kernel_rfl) rfl
theorem ref01_Add_Gok : GOk ref01_Add_G E1 0 := gok E1_ok TT_ok EQS_ok trivial trivial
theorem ref01_Add_ok : EntryOk E1 ref01_Add_E := mkE_ok ref01_Add_Gok (by kernel_rfl) fn125 (by kernel_rfl) rfl
theorem ref02_Add_Gok : GOk ref02_Add_G E1 1 := gok E1_ok TT_ok EQS_ok ⟨⟨by decide, ref01_Compare_ok⟩, ⟨⟨by decide, ref02_truth_ok⟩, ⟨⟨by decide, ref01_Add_ok⟩, trivial⟩⟩⟩ trivial
theorem ref02_Add_ok : EntryOk E1 ref02_Add_E := mkE_ok ref02_Add_Gok (by kernel_rfl) fn102 (by kernel_rfl) rfl
theorem ref01_Narrow_Gok : GOk ref01_Narrow_G E1 0 := gok E1_ok TT_ok EQS_ok trivial trivial
theorem ref01_Narrow_ok : EntryOk E1 ref01_Narrow_E := mkE_ok ref01_Narrow_Gok (by kernel_rfl) fn103 (by kernel_rfl) rfl
theorem ref05_Combine_Gok : GOk ref05_Combine_G E1 2 := gok E1_ok TT_ok EQS_ok ⟨⟨by decide, ref02_Is_ok⟩, ⟨⟨by decide, ref05_below_ok⟩, ⟨⟨by decide, ref01_Of_ok⟩, ⟨⟨by decide, ref02_Add_ok⟩, ⟨⟨by decide, ref01_Narrow_ok⟩, trivial⟩⟩⟩⟩⟩ trivial
theorem ref05_Combine_ok : EntryOk E1 ref05_Combine_E := mkE_ok ref05_Combine_Gok (by kernel_rfl) fn66 (by kernel_rfl) rfl
theorem ref07_built_Gok : GOk ref07_built_G E1 0 := gok E1_ok TT_ok EQS_ok trivial ⟨⟨fn81, rfl⟩, trivial⟩
theorem ref07_built_ok : EntryOk E1 ref07_built_E := mkE_ok ref07_built_Gok (by kernel_rfl) fn67 (by kernel_rfl) rfl
theorem ref07_Of_Gok : GOk ref07_Of_G E1 7 := gok E1_ok TT_ok EQS_ok ⟨⟨by decide, ref02_Is_ok⟩, ⟨⟨by decide, ref05_Combine_ok⟩, ⟨⟨by decide, ref07_built_ok⟩, trivial⟩⟩⟩ trivial
theorem ref07_Of_ok : EntryOk E1 ref07_Of_E := mkE_ok ref07_Of_Gok (by kernel_rfl) fn16 (by kernel_rfl) rfl
theorem csr_rises_Gok : GOk csr_rises_G E1 0 := gok E1_ok TT_ok EQS_ok trivial trivial
theorem csr_rises_ok : EntryOk E1 csr_rises_E := mkE_ok csr_rises_Gok (by kernel_rfl) fn73 (by kernel_rfl) rfl
theorem csr_Right_Gok : GOk csr_Right_G E1 1 := gok E1_ok TT_ok EQS_ok ⟨⟨by decide, csr_size_ok⟩, ⟨⟨by decide, csr_rises_ok⟩, trivial⟩⟩ trivial
theorem csr_Right_ok : EntryOk E1 csr_Right_E := mkE_ok csr_Right_Gok (by kernel_rfl) fn21 (by kernel_rfl) rfl
theorem csr_sure_Gok : GOk csr_sure_G E1 7 := gok E1_ok TT_ok EQS_ok ⟨⟨by decide, csr_Right_ok⟩, ⟨⟨by decide, csr_build_ok⟩, trivial⟩⟩ trivial
theorem csr_sure_ok : EntryOk E1 csr_sure_E := mkE_ok csr_sure_Gok (by kernel_rfl) fn71 (by kernel_rfl) rfl
theorem csr_row_Gok : GOk csr_row_G E1 0 := gok E1_ok TT_ok EQS_ok trivial trivial
theorem csr_row_ok : EntryOk E1 csr_row_E := mkE_ok csr_row_Gok (by kernel_rfl) fn70 (by kernel_rfl) rfl
theorem csr_Turn_Gok : GOk csr_Turn_G E1 8 := gok E1_ok TT_ok EQS_ok ⟨⟨by decide, csr_row_ok⟩, ⟨⟨by decide, csr_sure_ok⟩, trivial⟩⟩ ⟨⟨fn75, rfl⟩, ⟨⟨fn76, rfl⟩, trivial⟩⟩
theorem csr_Turn_ok : EntryOk E1 csr_Turn_E := mkE_ok csr_Turn_Gok (by kernel_rfl) fn31 (by kernel_rfl) rfl
theorem slices_Equal_int_int_Gok : GOk slices_Equal_int_int_G E1 0 := gok E1_ok TT_ok EQS_ok trivial trivial
theorem slices_Equal_int_int_ok : EntryOk E1 slices_Equal_int_int_E := mkE_ok slices_Equal_int_int_Gok (by kernel_rfl) fn78 (by kernel_rfl) rfl
theorem slices_Equal_int64_int64_Gok : GOk slices_Equal_int64_int64_G E1 0 := gok E1_ok TT_ok EQS_ok trivial trivial
theorem slices_Equal_int64_int64_ok : EntryOk E1 slices_Equal_int64_int64_E := mkE_ok slices_Equal_int64_int64_Gok (by kernel_rfl) fn79 (by kernel_rfl) rfl
theorem ref03_SameInts_Gok : GOk ref03_SameInts_G E1 0 := gok E1_ok TT_ok EQS_ok trivial trivial
theorem ref03_SameInts_ok : EntryOk E1 ref03_SameInts_E := mkE_ok ref03_SameInts_Gok (by kernel_rfl) fn68 (by kernel_rfl) rfl
theorem ref07_SameVals_Gok : GOk ref07_SameVals_G E1 0 := gok E1_ok TT_ok EQS_ok trivial trivial
theorem ref07_SameVals_ok : EntryOk E1 ref07_SameVals_E := mkE_ok ref07_SameVals_Gok (by kernel_rfl) fn69 (by kernel_rfl) rfl
theorem ref07_Same_Gok : GOk ref07_Same_G E1 1 := gok E1_ok TT_ok EQS_ok ⟨⟨by decide, ref03_SameInts_ok⟩, ⟨⟨by decide, ref07_SameVals_ok⟩, trivial⟩⟩ trivial
theorem ref07_Same_ok : EntryOk E1 ref07_Same_E := mkE_ok ref07_Same_Gok (by kernel_rfl) fn18 (by kernel_rfl) rfl
theorem ref07_Right_Gok : GOk ref07_Right_G E1 0 := gok E1_ok TT_ok EQS_ok trivial trivial
theorem ref07_Right_ok : EntryOk E1 ref07_Right_E := mkE_ok ref07_Right_Gok (by kernel_rfl) fn22 (by kernel_rfl) rfl
theorem ref07_Sure_Gok : GOk ref07_Sure_G E1 1 := gok E1_ok TT_ok EQS_ok ⟨⟨by decide, ref07_Right_ok⟩, trivial⟩ ⟨⟨fn81, rfl⟩, trivial⟩
theorem ref07_Sure_ok : EntryOk E1 ref07_Sure_E := mkE_ok ref07_Sure_Gok (by kernel_rfl) fn74 (by kernel_rfl) rfl
theorem ref07_Row_Gok : GOk ref07_Row_G E1 8 := gok E1_ok TT_ok EQS_ok ⟨⟨by decide, ref07_Sure_ok⟩, trivial⟩ trivial
theorem ref07_Row_ok : EntryOk E1 ref07_Row_E := mkE_ok ref07_Row_Gok (by kernel_rfl) fn27 (by kernel_rfl) rfl
theorem ref07_SameItems_Gok : GOk ref07_SameItems_G E1 0 := gok E1_ok TT_ok EQS_ok trivial trivial
theorem ref07_SameItems_ok : EntryOk E1 ref07_SameItems_E := mkE_ok ref07_SameItems_Gok (by kernel_rfl) fn25 (by kernel_rfl) rfl
theorem ref07_Triples_Gok : GOk ref07_Triples_G E1 8 := gok E1_ok TT_ok EQS_ok ⟨⟨by decide, ref07_Sure_ok⟩, trivial⟩ trivial
theorem ref07_Triples_ok : EntryOk E1 ref07_Triples_E := mkE_ok ref07_Triples_Gok (by kernel_rfl) fn30 (by kernel_rfl) rfl
theorem ref07_Turn_Gok : GOk ref07_Turn_G E1 9 := gok E1_ok TT_ok EQS_ok ⟨⟨by decide, ref07_Triples_ok⟩, ⟨⟨by decide, ref07_built_ok⟩, ⟨⟨by decide, ref07_Sure_ok⟩, trivial⟩⟩⟩ trivial
theorem ref07_Turn_ok : EntryOk E1 ref07_Turn_E := mkE_ok ref07_Turn_Gok (by kernel_rfl) fn32 (by kernel_rfl) rfl
theorem law07_Size_Gok : GOk law07_Size_G E1 0 := gok E1_ok TT_ok EQS_ok trivial trivial
theorem law07_Size_ok : EntryOk E1 law07_Size_E := mkE_ok law07_Size_Gok (by kernel_rfl) fn41 (by kernel_rfl) rfl
theorem law07_Some_Gok : GOk law07_Some_G E1 8 := gok E1_ok TT_ok EQS_ok ⟨⟨by decide, law07_Few_ok⟩, ⟨⟨by decide, ref07_Of_ok⟩, ⟨⟨by decide, law07_Size_ok⟩, trivial⟩⟩⟩ ⟨⟨fn81, rfl⟩, trivial⟩
theorem law07_Some_ok : EntryOk E1 law07_Some_E := mkE_ok law07_Some_Gok (by kernel_rfl) fn39 (by kernel_rfl) rfl
theorem dcsc_size_Gok : GOk dcsc_size_G E1 0 := gok E1_ok TT_ok EQS_ok trivial trivial
theorem dcsc_size_ok : EntryOk E1 dcsc_size_E := mkE_ok dcsc_size_Gok (by kernel_rfl) fn85 (by kernel_rfl) rfl
theorem dcsc_rises_Gok : GOk dcsc_rises_G E1 0 := gok E1_ok TT_ok EQS_ok trivial trivial
theorem dcsc_rises_ok : EntryOk E1 dcsc_rises_E := mkE_ok dcsc_rises_Gok (by kernel_rfl) fn86 (by kernel_rfl) rfl
theorem dcsc_Right_Gok : GOk dcsc_Right_G E1 1 := gok E1_ok TT_ok EQS_ok ⟨⟨by decide, dcsc_size_ok⟩, ⟨⟨by decide, dcsc_rises_ok⟩, trivial⟩⟩ trivial
theorem dcsc_Right_ok : EntryOk E1 dcsc_Right_E := mkE_ok dcsc_Right_Gok (by kernel_rfl) fn48 (by kernel_rfl) rfl
theorem dcsc_sure_Gok : GOk dcsc_sure_G E1 2 := gok E1_ok TT_ok EQS_ok ⟨⟨by decide, dcsc_Right_ok⟩, trivial⟩ trivial
theorem dcsc_sure_ok : EntryOk E1 dcsc_sure_E := mkE_ok dcsc_sure_Gok (by kernel_rfl) fn82 (by kernel_rfl) rfl
theorem dcsc_find_Gok : GOk dcsc_find_G E1 0 := gok E1_ok TT_ok EQS_ok trivial trivial
theorem dcsc_find_ok : EntryOk E1 dcsc_find_E := mkE_ok dcsc_find_Gok (by kernel_rfl) fn83 (by kernel_rfl) rfl
theorem dcsc_Column_Gok : GOk dcsc_Column_G E1 3 := gok E1_ok TT_ok EQS_ok ⟨⟨by decide, dcsc_sure_ok⟩, ⟨⟨by decide, dcsc_find_ok⟩, trivial⟩⟩ trivial
theorem dcsc_Column_ok : EntryOk E1 dcsc_Column_E := mkE_ok dcsc_Column_Gok (by kernel_rfl) fn43 (by kernel_rfl) rfl
theorem dcsc_Many_Gok : GOk dcsc_Many_G E1 3 := gok E1_ok TT_ok EQS_ok ⟨⟨by decide, dcsc_sure_ok⟩, trivial⟩ trivial
theorem dcsc_Many_ok : EntryOk E1 dcsc_Many_E := mkE_ok dcsc_Many_Gok (by kernel_rfl) fn52 (by kernel_rfl) rfl
theorem dcsc_Count_Gok : GOk dcsc_Count_G E1 3 := gok E1_ok TT_ok EQS_ok ⟨⟨by decide, dcsc_sure_ok⟩, trivial⟩ trivial
theorem dcsc_Count_ok : EntryOk E1 dcsc_Count_E := mkE_ok dcsc_Count_Gok (by kernel_rfl) fn54 (by kernel_rfl) rfl
theorem dcsc_Back_Gok : GOk dcsc_Back_G E1 15 := gok E1_ok TT_ok EQS_ok ⟨⟨by decide, csr_Turn_ok⟩, ⟨⟨by decide, dcsc_sure_ok⟩, trivial⟩⟩ trivial
theorem dcsc_Back_ok : EntryOk E1 dcsc_Back_E := mkE_ok dcsc_Back_Gok (by kernel_rfl) fn50 (by kernel_rfl) rfl
theorem dcsc_Work_Gok : GOk dcsc_Work_G E1 3 := gok E1_ok TT_ok EQS_ok ⟨⟨by decide, dcsc_sure_ok⟩, ⟨⟨by decide, dcsc_find_ok⟩, trivial⟩⟩ trivial
theorem dcsc_Work_ok : EntryOk E1 dcsc_Work_E := mkE_ok dcsc_Work_Gok (by kernel_rfl) fn55 (by kernel_rfl) rfl
theorem dcsc_Same_Gok : GOk dcsc_Same_G E1 3 := gok E1_ok TT_ok EQS_ok ⟨⟨by decide, slices_Equal_int_int_ok⟩, ⟨⟨by decide, slices_Equal_int64_int64_ok⟩, ⟨⟨by decide, dcsc_sure_ok⟩, trivial⟩⟩⟩ trivial
theorem dcsc_Same_ok : EntryOk E1 dcsc_Same_E := mkE_ok dcsc_Same_Gok (by kernel_rfl) fn57 (by kernel_rfl) rfl
theorem ref08_Right_Gok : GOk ref08_Right_G E1 0 := gok E1_ok TT_ok EQS_ok trivial trivial
theorem ref08_Right_ok : EntryOk E1 ref08_Right_E := mkE_ok ref08_Right_Gok (by kernel_rfl) fn49 (by kernel_rfl) rfl
theorem ref08_Sure_Gok : GOk ref08_Sure_G E1 1 := gok E1_ok TT_ok EQS_ok ⟨⟨by decide, ref08_Right_ok⟩, trivial⟩ trivial
theorem ref08_Sure_ok : EntryOk E1 ref08_Sure_E := mkE_ok ref08_Sure_Gok (by kernel_rfl) fn53 (by kernel_rfl) rfl
theorem ref08_Column_Gok : GOk ref08_Column_G E1 2 := gok E1_ok TT_ok EQS_ok ⟨⟨by decide, ref08_Sure_ok⟩, trivial⟩ trivial
theorem ref08_Column_ok : EntryOk E1 ref08_Column_E := mkE_ok ref08_Column_Gok (by kernel_rfl) fn44 (by kernel_rfl) rfl
theorem ref08_Of_Gok : GOk ref08_Of_G E1 10 := gok E1_ok TT_ok EQS_ok ⟨⟨by decide, ref07_Row_ok⟩, ⟨⟨by decide, ref07_Turn_ok⟩, trivial⟩⟩ trivial
theorem ref08_Of_ok : EntryOk E1 ref08_Of_E := mkE_ok ref08_Of_Gok (by kernel_rfl) fn47 (by kernel_rfl) rfl
theorem ref08_Same_Gok : GOk ref08_Same_G E1 1 := gok E1_ok TT_ok EQS_ok ⟨⟨by decide, ref03_SameInts_ok⟩, ⟨⟨by decide, ref07_SameVals_ok⟩, trivial⟩⟩ trivial
theorem ref08_Same_ok : EntryOk E1 ref08_Same_E := mkE_ok ref08_Same_Gok (by kernel_rfl) fn45 (by kernel_rfl) rfl
theorem ref08_Back_Gok : GOk ref08_Back_G E1 8 := gok E1_ok TT_ok EQS_ok ⟨⟨by decide, ref07_Of_ok⟩, ⟨⟨by decide, ref08_Sure_ok⟩, trivial⟩⟩ trivial
theorem ref08_Back_ok : EntryOk E1 ref08_Back_E := mkE_ok ref08_Back_Gok (by kernel_rfl) fn51 (by kernel_rfl) rfl
end K
end Ev
end Go.Proofs.Ytlkcneneagifoaa
end
section
namespace Go.Proofs.Ytlkcneneagifoaa
namespace Ev
namespace L2
open Go
set_option linter.unusedVariables false
set_option linter.unusedSimpArgs false
set_option maxRecDepth 100000
set_option maxHeartbeats 1000000
attribute [local irreducible] OpsL StL TnL WpL EndL
theorem E1_fn : K.E1.fn = fiOf Try.prog := envOf_fn _ _
theorem ty3 : K.E1.ti 3 = some (⟨.int .i64, [.int .i64 0], 1, 8⟩ : TI) := by kernel_rfl
theorem ty26 : K.E1.ti 26 = some (⟨.slice 3, [.slice none 0 0], 1, 24⟩ : TI) := by kernel_rfl
theorem ty29 : K.E1.ti 29 = some (⟨.struct (flds Try.prog 29), [.int .i64 0, .int .i64 0, .slice none 0 0, .slice none 0 0, .slice none 0 0], 5, 88⟩ : TI) := by kernel_rfl
theorem ty68 : K.E1.ti 68 = some (⟨.struct (flds Try.prog 68), [.int .i64 0, .int .i64 0, .slice none 0 0, .slice none 0 0, .slice none 0 0, .slice none 0 0], 6, 112⟩ : TI) := by kernel_rfl
theorem pl68 : places (tiOf Try.prog) (⟨.struct (flds Try.prog 68), [.int .i64 0, .int .i64 0, .slice none 0 0, .slice none 0 0, .slice none 0 0, .slice none 0 0], 6, 112⟩ : TI) = some fun i => ([(0, 1), (1, 1), (2, 1), (3, 1), (4, 1), (5, 1)] : List (Nat × Nat))[i]? := by kernel_rfl
theorem sz3 : sizeAt (tiOf Try.prog) 3 = some (1, false) := by kernel_rfl
theorem sz26 : sizeAt (tiOf Try.prog) 26 = some (1, false) := by kernel_rfl
theorem el26 : elemAt (tiOf Try.prog) 26 = some 1 := by kernel_rfl
theorem sz27 : sizeAt (tiOf Try.prog) 27 = some (1, false) := by kernel_rfl
theorem sz29 : sizeAt (tiOf Try.prog) 29 = some (5, true) := by kernel_rfl
theorem fa29_0 : fieldAt (tiOf Try.prog) 29 0 = some (0, 1, false) := by kernel_rfl
theorem fa29_1 : fieldAt (tiOf Try.prog) 29 1 = some (1, 1, false) := by kernel_rfl
theorem fa29_2 : fieldAt (tiOf Try.prog) 29 2 = some (2, 1, false) := by kernel_rfl
theorem fa29_3 : fieldAt (tiOf Try.prog) 29 3 = some (3, 1, false) := by kernel_rfl
theorem fa29_4 : fieldAt (tiOf Try.prog) 29 4 = some (4, 1, false) := by kernel_rfl
theorem sz68 : sizeAt (tiOf Try.prog) 68 = some (6, true) := by kernel_rfl
theorem fa68_2 : fieldAt (tiOf Try.prog) 68 2 = some (2, 1, false) := by kernel_rfl
theorem fa68_3 : fieldAt (tiOf Try.prog) 68 3 = some (3, 1, false) := by kernel_rfl
def r3 (x : Int) : List T := [iT .i64 x]
def r2 (x : Int) : List T := [iT .i64 x]
def r67 (x : Int × Int × Sl (Int) × Sl (Int) × Sl (Int) × Sl (Int)) : List T := [iT .i64 x.1, iT .i64 x.2.1, Sl.t r3 x.2.2.1, Sl.t r3 x.2.2.2.1, Sl.t r3 x.2.2.2.2.1, Sl.t r2 x.2.2.2.2.2]
def r28 (x : Int × Int × Sl (Int) × Sl (Int) × Sl (Int)) : List T := [iT .i64 x.1, iT .i64 x.2.1, Sl.t r3 x.2.2.1, Sl.t r3 x.2.2.2.1, Sl.t r2 x.2.2.2.2]
theorem ax84 : K.E1.ax 84 = some fun _ => none := rfl
noncomputable def csr_Turn (a : Int × Int × Sl (Int) × Sl (Int) × Sl (Int)) : Option (Int × Int × Sl (Int) × Sl (Int) × Sl (Int)) := K.csr_Turn a
theorem csr_Turn_r (m : Nat) {a out : Int × Int × Sl (Int) × Sl (Int) × Sl (Int)} (h : csr_Turn a = some out) : RunsP K.E1 (m + 15) 31 [.agg (r28 a)] (.fresh, [.agg (r28 out)]) := K.csr_Turn_ok m a out h
noncomputable def dcsc_Of_b1 (s11 : Sl (Int)) (s19 : Sl (Int)) (a : Int × List (Int) × List (Int)) : Option ((Int × List (Int) × List (Int)) ⊕ ((List (Int) × List (Int)) ⊕ Empty)) :=
 match a with
 | (n56, l57, l58) => (if n56 < ((s19.l.length : Nat) : Int) then ((atS 1 s19 n56).bind fun n64 => ((atS 1 s11 (IntKind.i64.wrap (n56 + 1))).bind fun n67 => (if n67 > n64 then ((app l57 ([n56] : List (Int))).bind fun _ => ((app l58 ([n67] : List (Int))).bind fun _ => some (.inl ((IntKind.i64.wrap (n56 + 1)), (l57 ++ ([n56] : List (Int))), (l58 ++ ([n67] : List (Int))))))) else some (.inl ((IntKind.i64.wrap (n56 + 1)), l57, l58))))) else some (.inr (.inl (l57, l58))))
noncomputable def dcsc_Of (a0 : Int × Int × Sl (Int) × Sl (Int) × Sl (Int)) : Option ((Int × Int × Sl (Int) × Sl (Int) × Sl (Int) × Sl (Int))) :=
 match a0 with
 | (n1, n2, s3, s4, s5) => ((csr_Turn (n1, n2, s3, s4, s5)).bind fun (n9, n10, s11, s12, s13) => ((cutS 1 s11 0 (IntKind.i64.wrap (((s11.l.length : Nat) : Int) - 1))).bind fun s19 => ((loopO (dcsc_Of_b1 s11 s19) (0, ([] : List (Int)), ([0] : List (Int)))).bind (Sum.elim (fun ⟨l75, l76⟩ => some (n10, n9, (mo 1 l75), (⟨true, 1, l76⟩ : Sl (Int)), s12, s13)) (fun u => u.elim)))))
theorem dcsc_Of_r (m : Nat) {a0 : Int × Int × Sl (Int) × Sl (Int) × Sl (Int)} {out : (Int × Int × Sl (Int) × Sl (Int) × Sl (Int) × Sl (Int))} (h : dcsc_Of a0 = some out) : RunsP K.E1 (m + 16) 46 [.agg (r28 a0)] (.fresh, [.agg (r67 out)]) := by
 obtain ⟨n1, n2, s3, s4, s5⟩ := a0
 refine fn_F rfl (by rw [E1_fn]; exact show fiOf Try.prog 46 = _ by unfold fiOf; rw [Try.func46]; unfold Try.f46; rfl) rfl ?_
 dsimp only
 unfold dcsc_Of at h
 refine L_seq ?_
 refine L_ops ?_
 refine ol_new rfl rfl rfl (q_box ty29 rfl (cs := [iC .i64 n1, iC .i64 n2, .p false (Sl.t r3 s3), .p false (Sl.t r3 s4), .p false (Sl.t r2 s5)]) rfl rfl) (fun k6 => ?_)
 refine ol_new rfl rfl rfl (q_alloc ty68 (row := [iC .i64 0, iC .i64 0, .p true (Sl.t r3 (⟨false, 0, []⟩ : Sl (Int))), .p true (Sl.t r3 (⟨false, 0, []⟩ : Sl (Int))), .p true (Sl.t r3 (⟨false, 0, []⟩ : Sl (Int))), .p true (Sl.t r2 (⟨false, 0, []⟩ : Sl (Int)))]) rfl rfl) (fun k7 => ?_)
 refine ol_end ?_
 refine E_seq ?_
 refine L_seq ?_
 refine L_ops ?_
 refine ol_put rfl rfl rfl (q_loadP (v := .agg [iC .i64 n1, iC .i64 n2, .p false (Sl.t r3 s3), .p false (Sl.t r3 s4), .p false (Sl.t r2 s5)]) 1 rfl sz29 rfl rfl rfl rfl) ?_
 obtain ⟨⟨n9, n10, s11, s12, s13⟩, h8, h⟩ := bindS h
 refine ol_put rfl rfl rfl (q_callF (v := .agg [iC .i64 n9, iC .i64 n10, .p true (Sl.t r3 s11), .p true (Sl.t r3 s12), .p true (Sl.t r2 s13)]) (args := [.agg [iC .i64 n1, iC .i64 n2, .p false (Sl.t r3 s3), .p false (Sl.t r3 s4), .p false (Sl.t r2 s5)]]) (csr_Turn_r (m + 0) h8) rfl rfl (vw_cons (vd_agg (vc_cons vc_v (vc_cons vc_v (vc_cons vc_s (vc_cons vc_s (vc_cons vc_s vc_nil)))))) vw_nil) rfl rfl) ?_
 refine ol_new rfl rfl rfl (q_alloc ty29 (row := [iC .i64 0, iC .i64 0, .p true (Sl.t r3 (⟨false, 0, []⟩ : Sl (Int))), .p true (Sl.t r3 (⟨false, 0, []⟩ : Sl (Int))), .p true (Sl.t r2 (⟨false, 0, []⟩ : Sl (Int)))]) rfl rfl) (fun k14 => ?_)
 refine ol_wr rfl rfl (q_store (es' := [[iC .i64 n9, iC .i64 n10, .p true (Sl.t r3 s11), .p true (Sl.t r3 s12), .p true (Sl.t r2 s13)]]) 0 rfl rfl rfl sz29 rfl rfl rfl rfl rfl) rfl ?_
 refine ol_end ?_
 refine E_seq ?_
 refine L_seq ?_
 refine L_ops ?_
 refine ol_put rfl rfl rfl (q_fieldP rfl fa29_1 rfl) ?_
 refine ol_put rfl rfl rfl (q_loadP (v := .one (iC .i64 n10)) 0 rfl sz3 rfl rfl rfl rfl) ?_
 refine ol_put rfl rfl rfl (q_fieldP rfl fa29_0 rfl) ?_
 refine ol_put rfl rfl rfl (q_loadP (v := .one (iC .i64 n9)) 0 rfl sz3 rfl rfl rfl rfl) ?_
 refine ol_new rfl rfl rfl (q_bslice (cs := [iC .i64 0]) (es := (([0] : List (Int))).map (rowC r3)) ty26 rfl ty3 rfl rfl rfl rfl rfl) (fun k15 => ?_)
 refine ol_put rfl rfl rfl (q_fieldP rfl fa29_3 rfl) ?_
 refine ol_put rfl rfl rfl (q_loadP (v := .one (.p true (Sl.t r3 s12))) 1 rfl sz26 rfl rfl rfl rfl) ?_
 refine ol_put rfl rfl rfl (q_fieldP rfl fa29_4 rfl) ?_
 refine ol_put rfl rfl rfl (q_loadP (v := .one (.p true (Sl.t r2 s13))) 1 rfl sz27 rfl rfl rfl rfl) ?_
 refine ol_put rfl rfl rfl (q_build (cs := [iC .i64 n10, iC .i64 n9, .p true (Sl.t r3 (⟨false, 0, []⟩ : Sl (Int))), .own k15 0 (([0] : List (Int))).length, .p true (Sl.t r3 s12), .p true (Sl.t r2 s13)]) ty68 rfl pl68 rfl) ?_
 refine ol_new rfl rfl rfl (q_alloc ty68 (row := [iC .i64 0, iC .i64 0, .p true (Sl.t r3 (⟨false, 0, []⟩ : Sl (Int))), .p true (Sl.t r3 (⟨false, 0, []⟩ : Sl (Int))), .p true (Sl.t r3 (⟨false, 0, []⟩ : Sl (Int))), .p true (Sl.t r2 (⟨false, 0, []⟩ : Sl (Int)))]) rfl rfl) (fun k16 => ?_)
 refine ol_wr rfl rfl (q_store (es' := [[iC .i64 n10, iC .i64 n9, .p true (Sl.t r3 (⟨false, 0, []⟩ : Sl (Int))), .own k15 0 (([0] : List (Int))).length, .p true (Sl.t r3 s12), .p true (Sl.t r2 s13)]]) 0 rfl rfl rfl sz68 rfl rfl rfl rfl rfl) rfl ?_
 refine ol_end ?_
 refine E_seq ?_
 refine L_seq ?_
 refine L_seq ?_
 refine L_ops ?_
 refine ol_put rfl rfl rfl (q_fieldP rfl fa29_2 rfl) ?_
 refine ol_put rfl rfl rfl (q_loadP (v := .one (.p true (Sl.t r3 s11))) 2 rfl sz26 rfl rfl rfl rfl) ?_
 refine ol_scallN (args := [.one (.p true (Sl.t r3 s11))]) rfl rfl rfl ax84 (by rw [E1_fn]; exact show fiOf Try.prog 84 = _ by unfold fiOf; rw [Try.func84]; unfold Try.f84; rfl) rfl rfl rfl ?_
 dsimp only
 refine L_seq ?_
 refine L_ops ?_
 refine ol_new rfl rfl rfl (q_box ty26 rfl (cs := [.p true (Sl.t r3 s11)]) rfl rfl) (fun k17 => ?_)
 refine ol_put rfl rfl rfl (q_assign (v := .one (.p true (.v .nilFunc))) rfl) ?_
 refine ol_end ?_
 refine E_seq ?_
 refine L_seq ?_
 refine L_ops ?_
 refine ol_put rfl rfl rfl (q_mkfun rfl rfl) ?_
 refine ol_put rfl rfl rfl (q_assign (v := .one (.clo (.func 110) [] [.ptr k17 0 0])) rfl) ?_
 refine ol_end ?_
 refine E_seq ?_
 refine L_ret ?_
 refine E_call (v := .one (.clo (.func 110) [] [.ptr k17 0 0])) (.inr rfl) (res_tmp (d := .one (.clo (.func 110) [] [.ptr k17 0 0])) rfl res_nil) rfl ?_
 refine ol_end ?_
 refine E_seq ?_
 refine L_block ?_
 refine L_range rfl (by rw [E1_fn]; exact show fiOf Try.prog 110 = _ by unfold fiOf; rw [Try.func110]; unfold Try.f110; rfl) rfl rfl (fun k18 => ?_)
 dsimp only
 refine L_seq ?_
 refine L_ops ?_
 refine ol_put rfl rfl rfl (q_loadP (v := .one (.p true (Sl.t r3 s11))) 1 rfl sz26 rfl rfl rfl rfl) ?_
 refine ol_put rfl rfl rfl (q_loadP (v := .one (.p true (Sl.t r3 s11))) 1 rfl sz26 rfl rfl rfl rfl) ?_
 refine ol_put rfl rfl rfl (q_lenS rfl ty26 rfl rfl rfl rfl) ?_
 refine ol_put rfl rfl rfl (q_bin rfl rfl (p_sub _ _ _ _ _ _ _) rfl) ?_
 obtain ⟨s19, h20, h⟩ := bindS h
 refine ol_put rfl rfl rfl (q_sliceS (r := r3) h20 rfl ty26 rfl ty3 no_zero (no_some rfl (Int.le_trans (cutS_some h20).1.1 (cutS_some h20).1.2.1) _)) ?_
 refine ol_put rfl rfl rfl (q_lenS rfl ty26 rfl rfl rfl rfl) ?_
 refine ol_put rfl rfl rfl (q_move (v := .one (iC .i64 0)) rfl) ?_
 refine ol_end ?_
 refine E_seq ?_
 refine L_block ?_
 refine L_addM (α := Int) r3 1 ?_
 let S1 : (Int × List (Int) × List (Int)) → (Nat × Nat) → (Nat → D) → Nat → D := fun a kt g => ups g [(0, .one (.yld k18)), (1, .one (.ptr k17 0 0)), (10, .one (.p true (Sl.t r3 s19))), (11, .one (iC .i64 ((s19.l.length : Nat) : Int))), (12, .one (iC .i64 a.1))]
 let SL1 : (Int × List (Int) × List (Int)) → (Nat × Nat) → BL := fun a kt => ([[(k18, 0, [])], [(k17, 1, [[.p true (Sl.t r3 s11)]])], [(k7, 6, [[iC .i64 0, iC .i64 0, .p true (Sl.t r3 (⟨false, 0, []⟩ : Sl (Int))), .p true (Sl.t r3 (⟨false, 0, []⟩ : Sl (Int))), .p true (Sl.t r3 (⟨false, 0, []⟩ : Sl (Int))), .p true (Sl.t r2 (⟨false, 0, []⟩ : Sl (Int)))]])], [(k16, 6, [[iC .i64 n10, iC .i64 n9, moC a.2.1 kt.1, .own kt.2 0 (a.2.2).length, .p true (Sl.t r3 s12), .p true (Sl.t r2 s13)]])], moL r3 1 a.2.1 kt.1, [(kt.2, 1, (a.2.2).map (rowC r3))]] : BL)
 let G1 : Empty → Ex → St → Prop := fun u => u.elim
 let Sx1 : (List (Int) × List (Int)) → (Nat × Nat) → (Nat → D) → Nat → D := fun a kt g => ups g []
 let SLx1 : (List (Int) × List (Int)) → (Nat × Nat) → BL := fun a kt => ([[(k7, 6, [[iC .i64 0, iC .i64 0, .p true (Sl.t r3 (⟨false, 0, []⟩ : Sl (Int))), .p true (Sl.t r3 (⟨false, 0, []⟩ : Sl (Int))), .p true (Sl.t r3 (⟨false, 0, []⟩ : Sl (Int))), .p true (Sl.t r2 (⟨false, 0, []⟩ : Sl (Int)))]])], [(k16, 6, [[iC .i64 n10, iC .i64 n9, moC a.1 kt.1, .own kt.2 0 (a.2).length, .p true (Sl.t r3 s12), .p true (Sl.t r2 s13)]])], [(k18, 0, [])], moL r3 1 a.1 kt.1, [(kt.2, 1, (a.2).map (rowC r3))]] : BL)
 let J1 : ((List (Int) × List (Int)) ⊕ Empty) → Ex → St → Prop := JX 33 0 Sx1 SLx1 G1
 refine L_loopS (dcsc_Of_b1 s11 s19) S1 SL1 J1 JX_n (0, ([] : List (Int)), ([0] : List (Int))) h (1054, k15) (ups_self ⟨rfl, rfl, rfl, rfl, rfl, trivial⟩) [1, 2, 6, 3, 0, 4] (by decide) rfl ?_ ?_
 ·rintro ⟨n56, l57, l58⟩ ⟨k59, k60⟩ g out h
  change dcsc_Of_b1 s11 s19 (n56, l57, l58) = some out at h
  unfold dcsc_Of_b1 at h
  refine L_seq ?_
  refine L_ops ?_
  by_cases c61 : n56 < ((s19.l.length : Nat) : Int)
  ·replace h := ifT c61 h
   refine ol_put rfl rfl rfl (q_bin rfl rfl (p_lss_t _ _ _ _ _ c61) rfl) ?_
   refine ol_end ?_
   refine E_seq ?_
   refine L_seq ?_
   refine L_condT rfl ?_
   refine L_skip ?_
   refine E_seq ?_
   refine L_seq ?_
   refine L_block ?_
   refine L_seq ?_
   refine L_ops ?_
   refine ol_put rfl rfl rfl (q_move (v := .one (iC .i64 n56)) rfl) ?_
   obtain ⟨n64, h63, h⟩ := bindS h
   obtain ⟨h63a, h63b, h63⟩ := atS_some h63
   refine ol_put rfl rfl rfl (q_ixS rfl rfl h63a h63 (el26.trans (congrArg some h63b.symm))) ?_
   refine ol_put rfl rfl rfl (q_loadI (v := .one (iC .i64 n64)) rfl sz3 (map_get h63) rfl rfl) ?_
   refine ol_put rfl rfl rfl (q_assign (v := .one (iC .i64 n56)) rfl) ?_
   refine ol_put rfl rfl rfl (q_assign (v := .one (iC .i64 n64)) rfl) ?_
   refine ol_end ?_
   refine E_seq ?_
   refine L_seq ?_
   refine L_ops ?_
   refine ol_put rfl rfl rfl (q_loadP (v := .one (.p true (Sl.t r3 s11))) 1 rfl sz26 rfl rfl rfl rfl) ?_
   refine ol_put rfl rfl rfl (q_move (v := .one (iC .i64 n56)) rfl) ?_
   refine ol_put rfl rfl rfl (q_bin rfl rfl (p_add _ _ _ _ _ _ _) rfl) ?_
   obtain ⟨n67, h66, h⟩ := bindS h
   obtain ⟨h66a, h66b, h66⟩ := atS_some h66
   refine ol_put rfl rfl rfl (q_ixS rfl rfl h66a h66 (el26.trans (congrArg some h66b.symm))) ?_
   refine ol_put rfl rfl rfl (q_loadI (v := .one (iC .i64 n67)) rfl sz3 (map_get h66) rfl rfl) ?_
   refine ol_put rfl rfl rfl (q_assign (v := .one (iC .i64 n67)) rfl) ?_
   refine ol_end ?_
   refine E_seq ?_
   refine L_seq ?_
   refine L_ops ?_
   refine ol_put rfl rfl rfl (q_move (v := .one (iC .i64 n67)) rfl) ?_
   refine ol_put rfl rfl rfl (q_move (v := .one (iC .i64 n64)) rfl) ?_
   by_cases c68 : n67 > n64
   ·replace h := ifT c68 h
    refine ol_put rfl rfl rfl (q_bin rfl rfl (p_gtr_t _ _ _ _ _ c68) rfl) ?_
    refine ol_put rfl rfl rfl (q_move (v := .one (bC true)) rfl) ?_
    refine ol_put rfl rfl rfl (q_move (v := .one (.yld k18)) rfl) ?_
    refine ol_put rfl rfl rfl (q_move (v := .one (iC .i64 n56)) rfl) ?_
    refine ol_put rfl rfl rfl (q_move (v := .one (iC .i64 n67)) rfl) ?_
    refine ol_yield (args := [.one (iC .i64 n56), .one (iC .i64 n67)]) (p := 0) rfl rfl rfl rfl rfl rfl rfl rfl rfl ?_
    refine L_seq ?_
    refine L_ops ?_
    refine ol_put rfl rfl rfl (q_assign (v := .one (iC .i64 n56)) rfl) ?_
    refine ol_end ?_
    refine E_seq ?_
    refine L_ops ?_
    refine ol_put rfl rfl rfl (q_assign (v := .one (iC .i64 n67)) rfl) ?_
    refine ol_end ?_
    refine E_asg ?_
    refine L_block ?_
    refine L_seq ?_
    refine L_ops ?_
    refine ol_put rfl rfl rfl (q_fieldP rfl fa68_2 rfl) ?_
    refine ol_put rfl rfl rfl (q_loadP (v := .one (moC l57 k59)) 3 rfl sz26 rfl rfl rfl rfl) ?_
    refine ol_put rfl rfl rfl (q_move (v := .one (iC .i64 n56)) rfl) ?_
    refine ol_new rfl rfl rfl (q_bslice (cs := [iC .i64 n56]) (es := (([n56] : List (Int))).map (rowC r3)) ty26 rfl ty3 rfl rfl rfl rfl rfl) (fun k69 => ?_)
    obtain ⟨_, h70, h⟩ := bindS h
    obtain ⟨h70b, rfl⟩ := app_some h70
    refine ol_appM (r := r3) (l := l57) (ys := ([n56] : List (Int))) 5 rfl rfl rfl rfl rfl rfl (el_ownM (l := ([n56] : List (Int))) 0 rfl) rfl h70 (fun y => rfl) el26 ty26 rfl rfl rfl rfl rfl (fun k71 => ?_)
    refine ol_put rfl rfl rfl (q_fieldP rfl fa68_2 rfl) ?_
    refine ol_wr rfl rfl (q_store (es' := [[iC .i64 n10, iC .i64 n9, moC (l57 ++ ([n56] : List (Int))) k71, .own k60 0 (l58).length, .p true (Sl.t r3 s12), .p true (Sl.t r2 s13)]]) 5 rfl rfl rfl sz26 rfl rfl rfl rfl rfl) rfl ?_
    refine ol_end ?_
    refine E_seq ?_
    refine L_ops ?_
    refine ol_put rfl rfl rfl (q_fieldP rfl fa68_3 rfl) ?_
    refine ol_put rfl rfl rfl (q_loadP (v := .one (.own k60 0 (l58).length)) 5 rfl sz26 rfl rfl rfl rfl) ?_
    refine ol_put rfl rfl rfl (q_move (v := .one (iC .i64 n67)) rfl) ?_
    refine ol_new rfl rfl rfl (q_bslice (cs := [iC .i64 n67]) (es := (([n67] : List (Int))).map (rowC r3)) ty26 rfl ty3 rfl rfl rfl rfl rfl) (fun k72 => ?_)
    obtain ⟨_, h73, h⟩ := bindS h
    obtain ⟨h73b, rfl⟩ := app_some h73
    refine ol_app rfl rfl rfl (q_app 7 rfl rfl (el_ownM (l := ([n67] : List (Int))) 0 rfl) rfl rfl h73 (fun y => rfl) el26 ty26 rfl rfl rfl rfl rfl) rfl (fun k74 => ?_)
    refine ol_put rfl rfl rfl (q_fieldP rfl fa68_3 rfl) ?_
    refine ol_wr rfl rfl (q_store (es' := [[iC .i64 n10, iC .i64 n9, moC (l57 ++ ([n56] : List (Int))) k71, .own k74 0 ((l58 ++ ([n67] : List (Int)))).length, .p true (Sl.t r3 s12), .p true (Sl.t r2 s13)]]) 7 rfl rfl rfl sz26 rfl rfl rfl rfl rfl) rfl ?_
    refine ol_end ?_
    refine E_blkN ?_
    refine E_roundN (p := 4) rfl ?_
    refine ol_put rfl rfl rfl (q_not rfl) ?_
    refine ol_put rfl rfl rfl (q_pickT (v := .one (bC false)) rfl rfl) ?_
    refine ol_end ?_
    refine E_seq ?_
    refine L_condF rfl ?_
    refine L_skip ?_
    refine E_blkN ?_
    refine E_seq ?_
    refine L_ops ?_
    refine ol_put rfl rfl rfl (q_bin rfl rfl (p_add _ _ _ _ _ _ _) rfl) ?_
    refine ol_put rfl rfl rfl (q_move (v := .one (iC .i64 (IntKind.i64.wrap (n56 + 1)))) rfl) ?_
    refine ol_end ?_
    obtain rfl := Option.some.inj h
    exact E_next (k71, k74) (ups_self ⟨rfl, rfl, rfl, rfl, rfl, trivial⟩) [4, 5, 6, 7, 2, 0] (by decide) rfl
   ·replace h := ifF c68 h
    refine ol_put rfl rfl rfl (q_bin rfl rfl (p_gtr_f _ _ _ _ _ c68) rfl) ?_
    refine ol_put rfl rfl rfl (q_move (v := .one (bC false)) rfl) ?_
    refine ol_skip rfl rfl rfl ?_
    refine ol_skip rfl rfl rfl ?_
    refine ol_skip rfl rfl rfl ?_
    refine ol_skip rfl rfl rfl ?_
    refine ol_skip rfl rfl rfl ?_
    refine ol_put rfl rfl rfl (q_pickF (v := .one (bC false)) rfl rfl) ?_
    refine ol_end ?_
    refine E_seq ?_
    refine L_condF rfl ?_
    refine L_skip ?_
    refine E_blkN ?_
    refine E_seq ?_
    refine L_ops ?_
    refine ol_put rfl rfl rfl (q_bin rfl rfl (p_add _ _ _ _ _ _ _) rfl) ?_
    refine ol_put rfl rfl rfl (q_move (v := .one (iC .i64 (IntKind.i64.wrap (n56 + 1)))) rfl) ?_
    refine ol_end ?_
    obtain rfl := Option.some.inj h
    exact E_next (k59, k60) (ups_self ⟨rfl, rfl, rfl, rfl, rfl, trivial⟩) [0, 1, 2, 3, 4, 5] (by decide) rfl
  ·replace h := ifF c61 h
   refine ol_put rfl rfl rfl (q_bin rfl rfl (p_lss_f _ _ _ _ _ c61) rfl) ?_
   refine ol_end ?_
   refine E_seq ?_
   refine L_seq ?_
   refine L_condF rfl ?_
   refine L_exit ?_
   refine E_seqX ?_
   obtain rfl := Option.some.inj h
   refine E_out ?_
   exact (E_exit (k59, k60) (ups_self trivial) [2, 3, 0, 4, 5] (by decide) rfl)
 ·rintro (⟨l75, l76⟩ | u) h
  ·refine J_x (fun kt g => ?_)
   rcases kt with ⟨k77, k78⟩
   replace h := elimL h
   refine E_blkH ?_
   refine E_range (p := 2) (.inl rfl) rfl ?_
   refine E_blkN ?_
   refine E_seq ?_
   refine L_seq ?_
   refine L_ops ?_
   refine ol_put rfl rfl rfl (q_loadP (v := .agg [iC .i64 n10, iC .i64 n9, moC l75 k77, .own k78 0 (l76).length, .p true (Sl.t r3 s12), .p true (Sl.t r2 s13)]) 1 rfl sz68 rfl rfl rfl rfl) ?_
   refine ol_wr rfl rfl (q_store (es' := [[iC .i64 n10, iC .i64 n9, moC l75 k77, .own k78 0 (l76).length, .p true (Sl.t r3 s12), .p true (Sl.t r2 s13)]]) 0 rfl rfl rfl sz68 rfl rfl rfl rfl rfl) rfl ?_
   refine ol_end ?_
   refine E_seq ?_
   refine L_ret ?_
   obtain rfl := Option.some.inj h
   exact E_endF (.inr rfl) (res_cell (d := .agg [iC .i64 n10, iC .i64 n9, moC l75 k77, .own k78 0 (l76).length, .p true (Sl.t r3 s12), .p true (Sl.t r2 s13)]) 0 rfl sz68 rfl rfl rfl rfl res_nil) (vw_cons (vd_agg (vc_cons vc_v (vc_cons vc_v (vc_cons (vc_M (r := r3) 3 rfl (fun x h m => rfl)) (vc_cons (vc_own (r := r3) 4 rfl (fun x h m => rfl)) (vc_cons vc_s (vc_cons vc_s vc_nil))))))) vw_nil) (fun h hb => own_agg) rfl rfl
  ·exact u.elim
end L2
namespace K
noncomputable def dcsc_Of : vals [(true, .C (.I .i64) (.C (.I .i64) (.C (.S (.I .i64)) (.C (.S (.I .i64)) (.S (.I .i64))))))] → Option (vals [(true, .C (.I .i64) (.C (.I .i64) (.C (.S (.I .i64)) (.C (.S (.I .i64)) (.C (.S (.I .i64)) (.S (.I .i64)))))))]) := L2.dcsc_Of
noncomputable def dcsc_Of_E : Entry := ⟨46, [(true, .C (.I .i64) (.C (.I .i64) (.C (.S (.I .i64)) (.C (.S (.I .i64)) (.S (.I .i64))))))], .data true [(true, .C (.I .i64) (.C (.I .i64) (.C (.S (.I .i64)) (.C (.S (.I .i64)) (.C (.S (.I .i64)) (.S (.I .i64)))))))], dcsc_Of, 16⟩
theorem entry_fresh {E : Env} {k : FuncId} {ins ts : List TyD} {f : vals ins → Option (vals ts)} {d : Nat} (h : ∀ (m : Nat) (a : vals ins) (out : vals ts), f a = some out → RunsP E (m + d) k (tdsOf ins a) (.fresh, tdsOf ts out)) : EntryOk E ⟨k, ins, .data true ts, f, d⟩ := h
theorem dcsc_Of_runs (m : Nat) (a : vals [(true, .C (.I .i64) (.C (.I .i64) (.C (.S (.I .i64)) (.C (.S (.I .i64)) (.S (.I .i64))))))]) (out : vals [(true, .C (.I .i64) (.C (.I .i64) (.C (.S (.I .i64)) (.C (.S (.I .i64)) (.C (.S (.I .i64)) (.S (.I .i64)))))))]) (h : dcsc_Of a = some out) : RunsP E1 (m + 16) 46 (tdsOf [(true, .C (.I .i64) (.C (.I .i64) (.C (.S (.I .i64)) (.C (.S (.I .i64)) (.S (.I .i64))))))] a) (.fresh, tdsOf [(true, .C (.I .i64) (.C (.I .i64) (.C (.S (.I .i64)) (.C (.S (.I .i64)) (.C (.S (.I .i64)) (.S (.I .i64)))))))] out) := L2.dcsc_Of_r (a0 := a) (out := out) m h
theorem dcsc_Of_ok : EntryOk E1 dcsc_Of_E := entry_fresh dcsc_Of_runs
end K
end Ev
end Go.Proofs.Ytlkcneneagifoaa
end
section
namespace Go.Proofs.Ytlkcneneagifoaa
namespace Ev
namespace K
open Go Go.RowKit
set_option linter.unusedVariables false
set_option linter.unusedSimpArgs false
noncomputable def ranF (E : Env) (k : FuncId) : List TD → Option (Kind × List TD) := fun vs => match cpR E 60 k vs with
 | some (.own, rs) => some (.fresh, rs)
 | r => r
theorem own_fresh {P : Program} {k : FuncId} {vs rs : List TD} (h : PureOk P k vs .own rs) : PureOk P k vs .fresh rs := fun w F ys a b c => (h w F ys a b c).mono fun e w' ⟨y, h1, h2, h3, h4⟩ => by
 have e0 : (fun b => b < w.heap.size ∧ (Kind.own ≠ .any ∨ F b)) = (fun b => b < w.heap.size ∧ (Kind.fresh ≠ .any ∨ F b)) := by funext b; simp
 rw [e0] at h2
 exact ⟨y, h1, h2, fun h => by simp at h, h4⟩
theorem ranF_ok {E : Env} (hE : E.Ok) {k : FuncId} (he : Enters E.P k) : ∀ vs kind rs, ranF E k vs = some (kind, rs) → PureOk E.P k vs kind rs ∧ Enters E.P k := fun vs kind rs h => by
 refine ⟨?_, he⟩
 unfold ranF at h
 split at h
 ·rename_i rs' hc
  cases h
  exact own_fresh ((cpR_runs hc).pure hE)
 ·exact (cpR_runs h).pure hE
theorem ranF_run {E : Env} {k : FuncId} {vs : List TD} {kind : Kind} {rs : List TD} (r : RunsP E 60 k vs (kind, rs)) : ranF E k vs = some (match kind with | .own => .fresh | q => q, rs) := by
 unfold ranF
 rw [cpR_eq r]
 cases kind <;> rfl
@[reducible] def outF : OutK → OutK
 | .data fr ts => .data fr ts
 | .own e => .data true [(false, .S e)]
 | .mown e => .data true [(false, .S e)]
 | .gown e => .data true [(false, .S e)]
def outV : (o : OutK) → o.val → (outF o).val
 | .data _ _, x => x
 | .own e, l => (⟨true, e.size, l⟩ : Sl e.val)
 | .mown e, l => mo e.size l
 | .gown _, s => s
def entF (en : Entry) : Entry := ⟨en.k, en.ins, outF en.out, fun a => (en.f a).map (outV en.out), 1⟩
theorem entF_ok {E E2 : Env} {en : Entry} (ok : EntryOk E en) (hd : en.d ≤ 60) (hax : E2.ax en.k = some (ranF E en.k)) : EntryOk E2 (entF en) := fun m a out h => by
 obtain ⟨k, ins, o, f, d⟩ := en
 obtain ⟨x, h1, rfl⟩ := Option.map_eq_some_iff.1 h
 have r := ok (60 - d) a x h1
 rw [show 60 - d + d = 60 by dsimp only at hd; omega] at r
 cases o with
 | data fr ts =>
  cases fr with
  | true =>
   have r : RunsP E 60 k (tdsOf ins a) (.fresh, tdsOf ts x) := r
   exact runsP_ax hax (ranF_run r)
  | false =>
   have r : RunsX E 60 k (tdsOf ins a) (tdsOf ts x) := r
   obtain ⟨fr, hf⟩ := r
   refine ⟨fr, runsP_ax hax ((ranF_run hf).trans ?_)⟩
   cases fr <;> rfl
 | own e =>
  have r : RunsP E 60 k (tdsOf ins a) (.own, [.one (.s true e.size (x.map e.row))]) := r
  exact runsP_ax hax (ranF_run r)
 | mown e =>
  have r : RunsP E 60 k (tdsOf ins a) (resM e.size e.row x) := r
  cases x with
  | nil => exact runsP_ax hax (ranF_run r)
  | cons y l => exact runsP_ax hax (ranF_run r)
 | gown e =>
  have r : RunsP E 60 k (tdsOf ins a) (bif x.nn then .own else .fresh, [.one (.s x.nn x.sz (x.l.map e.row))]) := r
  obtain ⟨nn, sz, l⟩ := x
  cases nn <;> exact runsP_ax hax (ranF_run r)
end K
end Ev
end Go.Proofs.Ytlkcneneagifoaa
end
section
namespace Go.Proofs.Ytlkcneneagifoaa
namespace Ev
open Go
set_option linter.unusedVariables false
mutual
def beqT : T → T → Bool
 | .v (.int k a), .v (.int k' b) => decide (k = k') && decide (a = b)
 | .v (.bool a), .v (.bool b) => a == b
 | .s n z l, .s n' z' l' => (n == n') && (Nat.beq z z' && beqR l l')
 | _, _ => false
def beqL : List T → List T → Bool
 | [], [] => true
 | a :: l, b :: m => beqT a b && beqL l m
 | _, _ => false
def beqR : List (List T) → List (List T) → Bool
 | [], [] => true
 | a :: l, b :: m => beqL a b && beqR l m
 | _, _ => false
end
mutual
theorem beqT_eq : ∀ (a b : T), beqT a b = true → a = b
 | .v x, .v y, h => by
  cases x <;> cases y <;> first
   | (simp only [beqT, Bool.and_eq_true, decide_eq_true_eq] at h; obtain ⟨rfl, rfl⟩ := h; rfl)
   | (simp only [beqT, beq_iff_eq] at h; subst h; rfl)
   | (simp [beqT] at h)
 | .v x, .s n z l, h => by cases x <;> simp [beqT] at h
 | .s n z l, .v x, h => by cases x <;> simp [beqT] at h
 | .s n z l, .s n' z' l', h => by
  simp only [beqT, Bool.and_eq_true, beq_iff_eq] at h
  obtain ⟨rfl, h1, h2⟩ := h
  obtain rfl := Nat.eq_of_beq_eq_true h1
  rw [beqR_eq l l' h2]
theorem beqL_eq : ∀ (a b : List T), beqL a b = true → a = b
 | [], [], _ => rfl
 | [], _ :: _, h => by simp [beqL] at h
 | _ :: _, [], h => by simp [beqL] at h
 | a :: l, b :: m, h => by
  simp only [beqL, Bool.and_eq_true] at h
  rw [beqT_eq a b h.1, beqL_eq l m h.2]
theorem beqR_eq : ∀ (a b : List (List T)), beqR a b = true → a = b
 | [], [], _ => rfl
 | [], _ :: _, h => by simp [beqR] at h
 | _ :: _, [], h => by simp [beqR] at h
 | a :: l, b :: m, h => by
  simp only [beqR, Bool.and_eq_true] at h
  rw [beqL_eq a b h.1, beqR_eq l m h.2]
end
def beqTD : TD → TD → Bool
 | .one a, .one b => beqT a b
 | .agg a, .agg b => beqL a b
 | _, _ => false
theorem beqTD_eq {a b : TD} (h : beqTD a b = true) : a = b := by
 cases a <;> cases b <;> simp only [beqTD, Bool.false_eq_true] at h
 ·rw [beqT_eq _ _ h]
 ·rw [beqL_eq _ _ h]
def beqTDs : List TD → List TD → Bool
 | [], [] => true
 | a :: l, b :: m => beqTD a b && beqTDs l m
 | _, _ => false
theorem beqTDs_eq : ∀ {a b : List TD}, beqTDs a b = true → a = b
 | [], [], _ => rfl
 | [], _ :: _, h => by simp [beqTDs] at h
 | _ :: _, [], h => by simp [beqTDs] at h
 | a :: l, b :: m, h => by
  simp only [beqTDs, Bool.and_eq_true] at h
  rw [beqTD_eq h.1, beqTDs_eq h.2]
def memoF : List (List TD × Kind × List TD) → List TD → Option (Kind × List TD)
 | [], _ => none
 | e :: r, vs => cond (beqTDs e.1 vs) (some e.2) (memoF r vs)
theorem memo_ok {P : Program} {cp : CallP} {k : FuncId} (hc : ∀ vs kind rs, cp k vs = some (kind, rs) → PureOk P k vs kind rs ∧ Enters P k) :
  ∀ (l : List (List TD × Kind × List TD)), (∀ e ∈ l, cp k e.1 = some e.2) → ∀ vs kind rs, memoF l vs = some (kind, rs) → PureOk P k vs kind rs ∧ Enters P k
 | [], _, vs, kind, rs, h => by simp [memoF] at h
 | e :: r, hl, vs, kind, rs, h => by
  unfold memoF at h
  cases hb : beqTDs e.1 vs with
  | true =>
   rw [hb] at h
   simp only [cond_true, Option.some.injEq] at h
   rw [← beqTDs_eq hb]
   exact hc _ _ _ (by rw [hl e List.mem_cons_self, h])
  | false =>
   rw [hb] at h
   exact memo_ok hc r (fun x hx => hl x (List.mem_cons_of_mem _ hx)) vs kind rs h
end Ev
end Go.Proofs.Ytlkcneneagifoaa
end
section
namespace Go.Proofs.Ytlkcneneagifoaa
namespace Ev
namespace K
open Go Go.RowKit
set_option linter.unusedVariables false
set_option linter.unusedSimpArgs false
set_option maxRecDepth 100000
set_option maxHeartbeats 1000000
def mem46 : List (List TD × Kind × List TD) := [([.agg [.v (.int .i64 2), .v (.int .i64 1000), .s true 1 [[.v (.int .i64 0)], [.v (.int .i64 0)], [.v (.int .i64 1)]], .s true 1 [[.v (.int .i64 700)]], .s true 1 [[.v (.int .i64 4)]]]], .fresh, [.agg [.v (.int .i64 2), .v (.int .i64 1000), .s true 1 [[.v (.int .i64 700)]], .s true 1 [[.v (.int .i64 0)], [.v (.int .i64 1)]], .s true 1 [[.v (.int .i64 1)]], .s true 1 [[.v (.int .i64 4)]]]])]
def mem50 : List (List TD × Kind × List TD) := [([.agg [.v (.int .i64 2), .v (.int .i64 1000), .s true 1 [[.v (.int .i64 700)]], .s true 1 [[.v (.int .i64 0)], [.v (.int .i64 1)]], .s true 1 [[.v (.int .i64 1)]], .s true 1 [[.v (.int .i64 4)]]]], .fresh, [.agg [.v (.int .i64 2), .v (.int .i64 1000), .s true 1 [[.v (.int .i64 0)], [.v (.int .i64 0)], [.v (.int .i64 1)]], .s true 1 [[.v (.int .i64 700)]], .s true 1 [[.v (.int .i64 4)]]]])]
noncomputable def axV : Ax := addAx (addAx inlAx 46 (memoF mem46)) 50 (memoF mem50)
noncomputable def EV : Env := envOf Try.prog axV
theorem liveV : (callers EV 300 60).1 42 [] = some (.fresh, [.one (.v (.bool true))]) := by kernel_rfl
theorem entV46 : Ev.Enters Try.prog 46 := ⟨_, _, Try.func46, by kernel_rfl, by unfold Try.f46; rfl⟩
theorem entV50 : Ev.Enters Try.prog 50 := ⟨_, _, Try.func50, by kernel_rfl, by unfold Try.f50; rfl⟩
theorem memV {k : FuncId} {a b : List TD} (r : RunsP E1 60 k a (.fresh, b)) (he : Ev.Enters Try.prog k) : ∀ vs kind rs, memoF [(a, .fresh, b)] vs = some (kind, rs) → PureOk Try.prog k vs kind rs ∧ Ev.Enters Try.prog k := memo_ok (cp := fun k' vs => if k' = k then cpR E1 60 k vs else none) (fun vs kind rs h => by
 rw [if_pos rfl] at h
 exact ⟨(cpR_runs h).pure E1_ok, he⟩) _ (List.forall_mem_cons.2 ⟨by rw [if_pos rfl]; exact cpR_eq r, fun _ h => by cases h⟩)
end K
end Ev
end Go.Proofs.Ytlkcneneagifoaa
end
section
namespace Go.Proofs.Ytlkcneneagifoaa
namespace Ev
open Go Go.RowKit
noncomputable def law07_Few (x : Sl (Int × Int × Int)) : Option (Sl (Int × Int × Int)) := K.law07_Few x
noncomputable def csr_size (x : Int) : Option (Bool) := K.csr_size x
noncomputable def csr_build (x : Int) (y : Int) (z : Sl (Int × Int × Int)) : Option (Int × Int × Sl (Int) × Sl (Int) × Sl (Int)) := K.csr_build (x, y, z)
noncomputable def ref02_Is (x : Int) : Option (Bool) := K.ref02_Is x
noncomputable def ref05_below (x : Int × Int × Int) (y : Int × Int × Int) : Option (Bool) := K.ref05_below (x, y)
noncomputable def ref01_Of (x : Int) : Option (Int × Int) := K.ref01_Of x
noncomputable def ref01_Compare (x : Int × Int) (y : Int × Int) : Option (Int) := K.ref01_Compare (x, y)
noncomputable def ref02_truth (x : Bool) : Option (Int × Int) := K.ref02_truth x
noncomputable def ref01_Add (x : Int × Int) (y : Int × Int) : Option (Int × Int) := K.ref01_Add (x, y)
noncomputable def ref02_Add (x : Int) (y : Int × Int) (z : Int × Int) : Option (Int × Int) := K.ref02_Add (x, y, z)
noncomputable def ref01_Narrow (x : Int × Int) : Option (Int × Bool) := K.ref01_Narrow x
noncomputable def ref05_Combine (x : Int) (y : Sl (Int × Int × Int)) : Option ((Sl (Int × Int × Int)) × Int) := K.ref05_Combine (x, y)
noncomputable def ref07_built (x : Int) (y : Int) (z : Sl (Int × Int × Int)) : Option (Int × Int × Sl (Int) × Sl (Int) × Sl (Int)) := K.ref07_built (x, y, z)
noncomputable def ref07_Of (x : Int) (y : Int) (z : Int) (u : Sl (Int × Int × Int)) : Option ((Int × Int × Sl (Int) × Sl (Int) × Sl (Int)) × Int) := K.ref07_Of (x, y, z, u)
noncomputable def csr_rises (x : Sl (Int)) (y : Int) : Option (Bool) := K.csr_rises (x, y)
noncomputable def csr_Right (x : Int × Int × Sl (Int) × Sl (Int) × Sl (Int)) : Option (Bool) := K.csr_Right x
noncomputable def csr_sure (x : Int × Int × Sl (Int) × Sl (Int) × Sl (Int)) : Option (Int × Int × Sl (Int) × Sl (Int) × Sl (Int)) := K.csr_sure x
noncomputable def csr_row (x : Int × Int × Sl (Int) × Sl (Int) × Sl (Int)) (y : Int) : Option (Sl (Int) × Sl (Int)) := K.csr_row (x, y)
noncomputable def csr_Turn (x : Int × Int × Sl (Int) × Sl (Int) × Sl (Int)) : Option (Int × Int × Sl (Int) × Sl (Int) × Sl (Int)) := K.csr_Turn x
noncomputable def slices_Equal_int_int (x : Sl (Int)) (y : Sl (Int)) : Option (Bool) := K.slices_Equal_int_int (x, y)
noncomputable def slices_Equal_int64_int64 (x : Sl (Int)) (y : Sl (Int)) : Option (Bool) := K.slices_Equal_int64_int64 (x, y)
noncomputable def ref03_SameInts (x : Sl (Int)) (y : Sl (Int)) : Option (Bool) := K.ref03_SameInts (x, y)
noncomputable def ref07_SameVals (x : Sl (Int)) (y : Sl (Int)) : Option (Bool) := K.ref07_SameVals (x, y)
noncomputable def ref07_Same (x : Int × Int × Sl (Int) × Sl (Int) × Sl (Int)) (y : Int × Int × Sl (Int) × Sl (Int) × Sl (Int)) : Option (Bool) := K.ref07_Same (x, y)
noncomputable def ref07_Right (x : Int × Int × Sl (Int) × Sl (Int) × Sl (Int)) : Option (Bool) := K.ref07_Right x
noncomputable def ref07_Sure (x : Int × Int × Sl (Int) × Sl (Int) × Sl (Int)) : Option (Int × Int × Sl (Int) × Sl (Int) × Sl (Int)) := K.ref07_Sure x
noncomputable def ref07_Row (x : Int × Int × Sl (Int) × Sl (Int) × Sl (Int)) (y : Int) : Option (List (Int × Int)) := K.ref07_Row (x, y)
noncomputable def ref07_SameItems (x : Sl (Int × Int)) (y : Sl (Int × Int)) : Option (Bool) := K.ref07_SameItems (x, y)
noncomputable def ref07_Triples (x : Int × Int × Sl (Int) × Sl (Int) × Sl (Int)) : Option (List (Int × Int × Int)) := K.ref07_Triples x
noncomputable def ref07_Turn (x : Int × Int × Sl (Int) × Sl (Int) × Sl (Int)) : Option (Int × Int × Sl (Int) × Sl (Int) × Sl (Int)) := K.ref07_Turn x
noncomputable def law07_Size (x : Int) : Option (Int) := K.law07_Size x
noncomputable def law07_Some (x : Int × Int) (y : Sl (Int × Int × Int)) : Option (Int × Int × Sl (Int) × Sl (Int) × Sl (Int)) := K.law07_Some (x, y)
noncomputable def dcsc_size (x : Int) : Option (Bool) := K.dcsc_size x
noncomputable def dcsc_rises (x : Sl (Int)) (y : Int) : Option (Bool) := K.dcsc_rises (x, y)
noncomputable def dcsc_Right (x : Int × Int × Sl (Int) × Sl (Int) × Sl (Int) × Sl (Int)) : Option (Bool) := K.dcsc_Right x
noncomputable def dcsc_sure (x : Int × Int × Sl (Int) × Sl (Int) × Sl (Int) × Sl (Int)) : Option (Int × Int × Sl (Int) × Sl (Int) × Sl (Int) × Sl (Int)) := K.dcsc_sure x
noncomputable def dcsc_find (x : Int × Int × Sl (Int) × Sl (Int) × Sl (Int) × Sl (Int)) (y : Int) : Option (Int × Int) := K.dcsc_find (x, y)
noncomputable def dcsc_Column (x : Int × Int × Sl (Int) × Sl (Int) × Sl (Int) × Sl (Int)) (y : Int) : Option (List (Int × Int)) := K.dcsc_Column (x, y)
noncomputable def dcsc_Many (x : Int × Int × Sl (Int) × Sl (Int) × Sl (Int) × Sl (Int)) : Option (Int) := K.dcsc_Many x
noncomputable def dcsc_Count (x : Int × Int × Sl (Int) × Sl (Int) × Sl (Int) × Sl (Int)) : Option (Int) := K.dcsc_Count x
noncomputable def dcsc_Back (x : Int × Int × Sl (Int) × Sl (Int) × Sl (Int) × Sl (Int)) : Option (Int × Int × Sl (Int) × Sl (Int) × Sl (Int)) := K.dcsc_Back x
noncomputable def dcsc_Work (x : Int × Int × Sl (Int) × Sl (Int) × Sl (Int) × Sl (Int)) (y : Sl (Int)) : Option (Int) := K.dcsc_Work (x, y)
noncomputable def dcsc_Same (x : Int × Int × Sl (Int) × Sl (Int) × Sl (Int) × Sl (Int)) (y : Int × Int × Sl (Int) × Sl (Int) × Sl (Int) × Sl (Int)) : Option (Bool) := K.dcsc_Same (x, y)
noncomputable def ref08_Right (x : Int × Int × Sl (Int) × Sl (Int) × Sl (Int) × Sl (Int)) : Option (Bool) := K.ref08_Right x
noncomputable def ref08_Sure (x : Int × Int × Sl (Int) × Sl (Int) × Sl (Int) × Sl (Int)) : Option (Int × Int × Sl (Int) × Sl (Int) × Sl (Int) × Sl (Int)) := K.ref08_Sure x
noncomputable def ref08_Column (x : Int × Int × Sl (Int) × Sl (Int) × Sl (Int) × Sl (Int)) (y : Int) : Option (List (Int × Int)) := K.ref08_Column (x, y)
noncomputable def ref08_Of (x : Int × Int × Sl (Int) × Sl (Int) × Sl (Int)) : Option (Int × Int × Sl (Int) × Sl (Int) × Sl (Int) × Sl (Int)) := K.ref08_Of x
noncomputable def ref08_Same (x : Int × Int × Sl (Int) × Sl (Int) × Sl (Int) × Sl (Int)) (y : Int × Int × Sl (Int) × Sl (Int) × Sl (Int) × Sl (Int)) : Option (Bool) := K.ref08_Same (x, y)
noncomputable def ref08_Back (x : Int × Int × Sl (Int) × Sl (Int) × Sl (Int) × Sl (Int)) : Option (Int × Int × Sl (Int) × Sl (Int) × Sl (Int)) := K.ref08_Back x
end Ev
end Go.Proofs.Ytlkcneneagifoaa
end
section
namespace Go.Proofs.Ytlkcneneagifoaa
namespace Ev
open Go
set_option linter.unusedVariables false
set_option linter.unusedSimpArgs false
def okS {α : Type} (w : Nat) (s : Sl α) : Prop := s.l = [] ∨ s.sz = w
theorem SlW.ok {α : Type} {w : Nat} {Q : α → Prop} {s : Sl α} (h : SlW w Q s) : okS w s := .inr h.1
def nilS {α : Type} : Sl α := ⟨false, 0, []⟩
theorem ok_nil {α : Type} {w : Nat} : okS w (nilS : Sl α) := .inl rfl
theorem ok_mo {α : Type} {w : Nat} (l : List α) : okS w (mo w l) := by cases l with | nil => exact .inl rfl | cons x l => exact .inr rfl
theorem atL_some' {α : Type} {l : List α} {j : Nat} {x : α} (h : l[j]? = some x) : atL l (j : Int) = some x := by
 have hj := (List.getElem?_eq_some_iff.1 h)
 rw [atL_get hj.1, hj.2]
theorem atS_some' {α : Type} {w : Nat} {s : Sl α} (hs : okS w s) {j : Nat} {x : α} (h : s.l[j]? = some x) : atS w s (j : Int) = some x := by
 have hj := (List.getElem?_eq_some_iff.1 h)
 rw [at_get hs hj.1, hj.2]
theorem loop_seq {A R : Type} {b : A → Option (A ⊕ R)} (n : Nat) (st : Nat → A) {r : R} (hs : ∀ j, j < n → b (st j) = some (.inl (st (j + 1)))) (he : b (st n) = some (.inr r)) : loopO b (st 0) = some r := by
 obtain ⟨q, h1, h2⟩ := loop_up (b := b) n (fun j a => a = st j) (fun q => q = r) (fun j a hj ha => .inl ⟨st (j + 1), by rw [ha]; exact hs j hj, rfl⟩) (fun a ha => ⟨r, by rw [ha]; exact he, rfl⟩) 0 (Nat.zero_le _) (st 0) rfl
 rw [h1, h2]
theorem loop_stop {A R : Type} {b : A → Option (A ⊕ R)} (n : Nat) (st : Nat → A) {a : A} (ha : a = st 0) {r : R} (hs : ∀ j, j < n → b (st j) = some (.inl (st (j + 1)))) (he : b (st n) = some (.inr r)) : loopO b a = some r := by rw [ha]; exact loop_seq n st hs he
theorem same_loop {α : Type} [DecidableEq α] {x y : List α} (hl : x.length = y.length) {b : Int → Option (Int ⊕ PUnit ⊕ Bool ⊕ Empty)} (h1 : ∀ j : Nat, (h : j < x.length) → b j = some (if x[j] = y[j] then .inl ((j + 1 : Nat) : Int) else .inr (.inr (.inl false)))) (h2 : ∀ j : Nat, x.length ≤ j → b j = some (.inr (.inl ()))) :
  loopO b 0 = some (if x = y then .inl () else .inr (.inl false)) := by
 obtain ⟨q, q1, q2⟩ := loop_up (b := b) x.length (fun j a => a = (j : Int) ∧ x.take j = y.take j) (fun q => q = if x = y then .inl () else .inr (.inl false))
  (by
   rintro j _ hj ⟨rfl, ht⟩
   rw [h1 j hj]
   by_cases e : x[j] = y[j]
   ·rw [if_pos e]
    refine .inl ⟨_, rfl, rfl, ?_⟩
    rw [List.take_succ_eq_append_getElem hj, List.take_succ_eq_append_getElem (by omega), ht, e]
   ·rw [if_neg e]
    refine .inr ⟨_, rfl, ?_⟩
    rw [if_neg (fun h => e (by simp [h]))])
  (by
   rintro _ ⟨rfl, ht⟩
   refine ⟨_, h2 _ (Nat.le_refl _), ?_⟩
   rw [List.take_of_length_le (Nat.le_refl _), List.take_of_length_le (by omega)] at ht
   rw [if_pos ht]) 0 (Nat.zero_le _) 0 ⟨rfl, by simp⟩
 rw [q1, q2]
theorem all_range {n : Nat} {p : Nat → Bool} : (List.range n).all p = true ↔ ∀ i, i < n → p i = true := by
 rw [List.all_eq_true]
 exact ⟨fun h i hi => h i (List.mem_range.2 hi), fun h i hi => h i (List.mem_range.1 hi)⟩
theorem all_false {n i : Nat} {p : Nat → Bool} (hi : i < n) (h : p i = false) : (List.range n).all p = false := by
 rw [Bool.eq_false_iff]
 intro ha
 rw [all_range.1 ha i hi] at h
 cases h
theorem getD_lt {l : List Int} {j : Nat} (h : j < l.length) : l.getD j 0 = l[j] := by rw [List.getD_eq_getElem?_getD, List.getElem?_eq_getElem h]; rfl
theorem maxI_eq (a b : Int) : maxI a b = max a b := by unfold maxI; split <;> omega
def sizeF (n : Int) : Bool := decide (0 ≤ n) && decide (n ≤ 4096)
theorem sizeF_iff {n : Int} : sizeF n = true ↔ 0 ≤ n ∧ n ≤ 4096 := by unfold sizeF; simp
theorem len_one {n : Int} (h : 0 ≤ n ∧ n ≤ 4096) : lenOk (n + 1) = some () := by unfold lenOk bound; rw [if_pos ⟨by omega, by omega⟩]
theorem len_ok {n : Nat} (h : n ≤ 1000000) : lenOk (n : Int) = some () := by unfold lenOk bound; rw [if_pos ⟨by omega, by omega⟩]
end Ev
end Go.Proofs.Ytlkcneneagifoaa
end
