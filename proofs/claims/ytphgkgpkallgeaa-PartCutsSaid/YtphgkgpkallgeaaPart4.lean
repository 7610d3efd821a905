/- Package part: what lies between two cuts. -/
import Derived.Test.YtphgkgpkallgeaaPart3
namespace Go.Proofs.Ytphgkgpkallgeaa
open Go.RowKit Go.Sort

/-- The world in which a sequence of segments holds its three numbers. -/
def three (w : World) (n r c : Int) : World := ((w.alloc (.cells #[.int .i64 n] 3)).alloc (.cells #[.int .i64 r] 3)).alloc (.cells #[.int .i64 c] 3)

set_option maxRecDepth 100000 in
theorem segments_any (n r c : Int) (w : World) :
    Calls Try.prog 30 #[.int .i64 n, .int .i64 r, .int .i64 c] w fun e w' =>
      e = .returned (.func (.func 31) #[] #[.pointer (some ⟨w.heap.size, 0, none⟩), .pointer (some ⟨w.heap.size + 1, 0, none⟩), .pointer (some ⟨w.heap.size + 1 + 1, 0, none⟩)]) ∧ w' = three w n r c := by
  go_enter Try.func30, Try.ntmps30
  go_wp2_with fail
  refine bodyPost_ret (v := .func (.func 31) #[] #[.pointer (some ⟨w.heap.size, 0, none⟩), .pointer (some ⟨w.heap.size + 1, 0, none⟩), .pointer (some ⟨w.heap.size + 1 + 1, 0, none⟩)]) ?_ rfl ⟨rfl, rfl⟩
  simp [results, Try.results30, go_sem]
end Go.Proofs.Ytphgkgpkallgeaa
