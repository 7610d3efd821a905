/- The functions of package wide and of its reference, each by a contract. -/
import Derived.Test.YtfaddlpemhifpaaRows
import Derived.Test.YtfaddlpemhifpaaMath
import Derived.Test.YtfaddlpemhifpaaKit
namespace Go.Proofs.Ytfaddlpemhifpaa
open Go.RowKit Go.Sort


set_option maxHeartbeats 400000 in
theorem of_any (n : Int) (w : World) (h1 : -9223372036854775808 ≤ n) (h2 : n ≤ 9223372036854775807) :
    Calls Try.prog 43 #[.int .i64 n] w fun e w' => e = .returned (W n) ∧ Below w.heap.size w w' := by
  go_enter Try.func43, Try.ntmps43
  go_wp2
  refine bodyPost_ret (v := W n) ?_ rfl ⟨rfl, bl1 _ _⟩
  simp [W, results, Try.results43, go_sem]
  exact ⟨of_hi n h1 h2, of_lo n⟩

set_option maxHeartbeats 400000 in
theorem refOf_any (n : Int) (w : World) (h1 : -9223372036854775808 ≤ n) (h2 : n ≤ 9223372036854775807) :
    Calls Try.prog 49 #[.int .i64 n] w fun e w' => e = .returned (W n) ∧ Below w.heap.size w w' := by
  go_enter Try.func49, Try.ntmps49
  go_wp2
  · refine bodyPost_ret (v := W n) ?_ rfl ⟨rfl, bl1 _ _⟩
    simp [W, results, Try.results49, go_sem]
    exact ⟨of_hi_neg n h1 (by assumption), of_lo n⟩
  · refine bodyPost_ret (v := W n) ?_ rfl ⟨rfl, bl1 _ _⟩
    simp [W, results, Try.results49, go_sem]
    exact ⟨of_hi_pos n (by omega) (by omega), of_lo_pos n (by omega) (by omega)⟩

set_option maxHeartbeats 400000 in
theorem add_any (x y : Int) (w : World) :
    Calls Try.prog 67 #[W x, W y] w fun e w' => e = .returned (W (x + y)) ∧ Below w.heap.size w w' := by
  go_enter Try.func67, Try.ntmps67
  go_wp2
  · refine bodyPost_ret (v := W (x + y)) ?_ rfl ⟨rfl, bl4 _ _ _ _ _⟩
    simp [W, results, Try.results67, go_sem]
    exact ⟨add_hi1 x y (by assumption), add_lo x y⟩
  · refine bodyPost_ret (v := W (x + y)) ?_ rfl ⟨rfl, bl4 _ _ _ _ _⟩
    simp [W, results, Try.results67, go_sem]
    exact ⟨add_hi0 x y (by assumption), add_lo x y⟩

set_option maxHeartbeats 400000 in
theorem refAdd_any (x y : Int) (w : World) :
    Calls Try.prog 75 #[W x, W y] w fun e w' => e = .returned (W (x + y)) ∧ Below w.heap.size w w' := by
  go_enter Try.func75, Try.ntmps75
  go_wp2
  · refine bodyPost_ret (v := W (x + y)) ?_ rfl ⟨rfl, ?_⟩
    · simp [W, results, Try.results75, go_sem]
      exact ⟨add_hi1 x y (by assumption), add_lo x y⟩
    · first | exact bl4 _ _ _ _ _ | exact bl3 _ _ _ _
  · refine bodyPost_ret (v := W (x + y)) ?_ rfl ⟨rfl, ?_⟩
    · simp [W, results, Try.results75, go_sem]
      exact ⟨add_hi0 x y (by assumption), add_lo x y⟩
    · first | exact bl4 _ _ _ _ _ | exact bl3 _ _ _ _

set_option maxHeartbeats 400000 in
theorem narrow_any (x : Int) (w : World) :
    Calls Try.prog 68 #[W x] w fun e w' => e = .returned (.tuple #[.int .i64 (nv x), .bool (nb x)]) ∧ Below w.heap.size w w' := by
  have hb := lo_bd x
  go_enter Try.func68, Try.ntmps68
  go_wp2
  refine wp_region_quiet_below (by kernel_rfl) (by kernel_rfl) ?_
  repeat (go_big_quiet_step (exact Calls.regrown_of (of_any _ _ (by unfold wrap64; omega) (by unfold wrap64; omega))))
  refine wpQuiet_nil ?_
  rintro _ ⟨⟨dq, osq⟩, rfl⟩
  go_wp2
  · go_ret2
    exact ⟨ret_nar (nar_f x (by assumption)), blg (bl1 _ _) _ _⟩
  · go_ret2
    exact ⟨ret_nar (nar_t x (by assumption)), blg (bl1 _ _) _ _⟩

set_option maxHeartbeats 400000 in
theorem refNarrow_any (x : Int) (w : World) :
    Calls Try.prog 51 #[W x] w fun e w' => e = .returned (.tuple #[.int .i64 (nv x), .bool (nb x)]) ∧ Below w.heap.size w w' := by
  have hn := Lib.hid (wneg x)
  go_enter Try.func51, Try.ntmps51
  go_wp2
  all_goals
    go_ret2
    refine ⟨ret_nar ?_, bl1 _ _⟩
    have := hn.out
    first | exact nar_no x (by omega) | exact nar_yes x (by omega)

set_option maxHeartbeats 400000 in
theorem compare_any (x y : Int) (w : World) :
    Calls Try.prog 76 #[W x, W y] w fun e w' => e = .returned (.int .i64 (cmp x y)) ∧ Below w.heap.size w w' := by
  go_enter Try.func76, Try.ntmps76
  go_wp2
  all_goals
    go_ret
    refine ⟨ret_int ?_, bl2 _ _ _⟩
    first | exact cmp_eq x y (eq_t x y (by assumption)) | (have := eq_f x y (by assumption); first | exact cmp_lt x y (by omega) | exact cmp_gt x y (by omega))

set_option maxHeartbeats 400000 in
theorem refCompare_any (x y : Int) (w : World) :
    Calls Try.prog 73 #[W x, W y] w fun e w' => e = .returned (.int .i64 (cmp x y)) ∧ Below w.heap.size w w' := by
  go_enter Try.func73, Try.ntmps73
  go_wp2
  all_goals
    go_ret
    refine ⟨ret_int ?_, bl2 _ _ _⟩
    first
      | exact cmp_lt x y (by omega)
      | (simp only [beq_iff_eq, beq_eq_false_iff_ne, ne_eq] at *; first | exact cmp_eq x y (by omega) | exact cmp_gt x y (by omega))
end Go.Proofs.Ytfaddlpemhifpaa
