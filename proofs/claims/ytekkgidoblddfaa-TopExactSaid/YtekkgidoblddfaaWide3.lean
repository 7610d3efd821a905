/- The reference's loops over wide numbers. -/
import Derived.Test.YtekkgidoblddfaaWide2
namespace Go.Proofs.Ytekkgidoblddfaa
open Go.RowKit Go.Sort

theorem refAdd_to (x y z h l h2 l2 : Int) (w : World) (eh : h = hi x) (el : l = lo x) (eh2 : h2 = hi y) (el2 : l2 = lo y) (ez : z = x + y) :
    Calls Try.prog 19 #[.agg #[.int .i64 h, .int .u64 l], .agg #[.int .i64 h2, .int .u64 l2]] w fun e w' => e = .returned (W z) ∧ Below w.heap.size w w' := by
  subst eh el eh2 el2 ez; exact refAdd_any x y w

set_option maxHeartbeats 400000 in
theorem refMinus_any (x : Int) (w : World) :
    Calls Try.prog 31 #[W x] w fun e w' => e = .returned (W (-x)) ∧ Below w.heap.size w w' := by
  go_enter Try.func31, Try.ntmps31
  go_wp2_with fail
  refine (refAdd_to (-x - 1) 1 (-x) _ _ _ _ _ (compl_hi x) (compl_lo x) one_hi one_lo (by omega)).mono ?_
  rintro e w1 ⟨rfl, hb1⟩; obtain ⟨⟨d1, o1⟩, rfl⟩ := regrown_of_below hb1; clear hb1
  go_wp2
  refine bodyPost_ret (v := W (-x)) ?_ rfl ⟨rfl, (by repeat (first | with_reducible refine blg ?_ _ _ | with_reducible refine bla ?_ _ | with_reducible exact Below.refl _ _))⟩
  simp [W, results, Try.results31, go_sem]

set_option maxHeartbeats 400000 in
theorem refSub_any (x y : Int) (w : World) :
    Calls Try.prog 21 #[W x, W y] w fun e w' => e = .returned (W (x - y)) ∧ Below w.heap.size w w' := by
  go_enter Try.func21, Try.ntmps21
  go_wp2_with fail
  refine wp_region_grown_tail 4 (by kernel_rfl) (by kernel_rfl) ?_
  simp only [List.take_succ_cons, List.take_zero, List.drop_succ_cons, List.drop_zero]
  repeat (go_big_quiet_step (first | (go_at_call 31; exact Calls.regrown_of (refMinus_any _ _)) | (go_at_call 19; exact Calls.regrown_of (refAdd_to x (-y) (x - y) _ _ _ _ _ rfl rfl rfl rfl (by omega)))))
  refine wpQuiet_nil ?_
  rintro _ ⟨⟨d2, o2⟩, rfl⟩
  go_wp2
  refine bodyPost_ret (v := W (x - y)) ?_ rfl ⟨rfl, (by repeat (first | with_reducible refine blg ?_ _ _ | with_reducible refine bla ?_ _ | with_reducible exact Below.refl _ _))⟩
  simp [W, results, Try.results21, go_sem]

end Go.Proofs.Ytekkgidoblddfaa
