/- Functions of the program as functions on data, and that they are. -/
import Derived.Test.YtlcfdmjkbaegpaaLf4
import Derived.Test.YtlcfdmjkbaegpaaLy1
namespace Go.Proofs.Ytlcfdmjkbaegpaa
namespace Ev
open Go
set_option linter.unusedVariables false
set_option linter.unusedSimpArgs false
set_option maxRecDepth 100000
set_option maxHeartbeats 1000000
attribute [local irreducible] OpsL StL TnL WpL EndL
noncomputable def law11_Three (n1 : Int) (a1 : (Sl (Int × Int)) × (Sl (Int × Int)) × (Sl (Int × Int))) : Option (((Int × (Sl (Int × Int))) × (Int × (Sl (Int × Int))) × (Int × (Sl (Int × Int))))) :=
  match a1 with
  | (s2, s3, s4) => ((law09_Some n1 s2).bind fun (n18, s19) => ((law09_Some n1 s3).bind fun (n21, s22) => ((law09_Some n1 s4).bind fun (n24, s25) => some ((n18, s19), (n21, s22), (n24, s25)))))
theorem law11_Three_r (m : Nat) {n1 : Int} {a1 : (Sl (Int × Int)) × (Sl (Int × Int)) × (Sl (Int × Int))} {out : ((Int × (Sl (Int × Int))) × (Int × (Sl (Int × Int))) × (Int × (Sl (Int × Int))))} (h : law11_Three n1 a1 = some out) : RunsP E1 (m + 6) 23 [.one (iT .u8 n1), .agg (r37 a1)] (.fresh, [.agg (r38 out)]) := by
  obtain ⟨s2, s3, s4⟩ := a1
  refine fn_F rfl (by rw [E1_fn]; exact show fiOf Try.prog 23 = _ by unfold fiOf; rw [Try.func23]; unfold Try.f23; rfl) rfl ?_
  dsimp only
  unfold law11_Three at h
  refine L_seq ?_
  refine L_ops ?_
  refine ol_new rfl rfl rfl (q_box ty37 rfl (cs := [.p false (Sl.t r56 s2), .p false (Sl.t r56 s3), .p false (Sl.t r56 s4)]) rfl rfl) (fun k5 => ?_)
  refine ol_new rfl rfl rfl (q_alloc ty38 (row := [iC .i64 0, .p true (Sl.t r56 (⟨false, 0, []⟩ : Sl (Int × Int))), iC .i64 0, .p true (Sl.t r56 (⟨false, 0, []⟩ : Sl (Int × Int))), iC .i64 0, .p true (Sl.t r56 (⟨false, 0, []⟩ : Sl (Int × Int)))]) rfl rfl) (fun k6 => ?_)
  refine ol_end ?_
  refine E_seq ?_
  refine L_seq ?_
  refine L_norm (L2 := ([[(k6, 6, [[iC .i64 0, .p true (Sl.t r56 (⟨false, 0, []⟩ : Sl (Int × Int))), iC .i64 0, .p true (Sl.t r56 (⟨false, 0, []⟩ : Sl (Int × Int))), iC .i64 0, .p true (Sl.t r56 (⟨false, 0, []⟩ : Sl (Int × Int)))]])], [(k5, 3, [[.p false (Sl.t r56 s2), .p false (Sl.t r56 s3), .p false (Sl.t r56 s4)]])]] : BL)) [0, 1] (by decide) rfl ?_
  refine L_turn 14 rfl [[], [], [], [], [], [], [], [], [], [], [], [], [], [k6]] [(false, []), (false, []), (false, []), (false, []), (false, []), (false, []), (false, []), (false, []), (false, []), (false, []), (false, []), (false, []), (false, []), (false, [])] [[1, 2, 4, 5, 6, 8, 9, 10], [0, 4, 5, 6, 8, 9, 10], [0, 4, 5, 6, 8, 9, 10], [4, 5, 6, 8, 9, 10], [0, 1, 2, 3, 5, 6, 8, 9, 10], [0, 1, 2, 3, 4, 8, 9, 10], [0, 1, 2, 3, 4, 8, 9, 10], [8, 9, 10], [0, 1, 2, 3, 4, 5, 6, 7, 9, 10], [0, 1, 2, 3, 4, 5, 6, 7, 8], [0, 1, 2, 3, 4, 5, 6, 7, 8], [], [], []] (by kernel_rfl) (by kernel_rfl) (by kernel_rfl) ?_ (fun bb7 hlt hnd => ?_)
  · intro bb7 hlt hnd
    exact ⟨⟨djE, ⟨djE, ⟨djE, ⟨djE, ⟨djE, ⟨djE, ⟨djE, ⟨djE, ⟨djE, ⟨djE, ⟨djE, ⟨djE, ⟨djE, ⟨djN, trivial⟩⟩⟩⟩⟩⟩⟩⟩⟩⟩⟩⟩⟩⟩, (ltO_cons ltK_nil (ltO_cons ltK_nil (ltO_cons ltK_nil (ltO_cons ltK_nil (ltO_cons ltK_nil (ltO_cons ltK_nil (ltO_cons ltK_nil (ltO_cons ltK_nil (ltO_cons ltK_nil (ltO_cons ltK_nil (ltO_cons ltK_nil (ltO_cons ltK_nil (ltO_cons ltK_nil (ltO_cons (ltK_cons (key_lt hlt 0 rfl) ltK_nil) ltO_nil))))))))))))))⟩
  refine tn_put rfl rfl rfl [] (by decide) rfl (hm0 rfl) rfl (q_move (v := .one (iC .u8 n1)) rfl) ?_
  refine tn_put rfl rfl rfl [] (by decide) rfl (hm0 rfl) rfl (q_ixA (a := 0) ty37 rfl ty23 rfl rfl rfl rfl) ?_
  refine tn_put rfl rfl rfl [1] (by decide) rfl (hm0 rfl) rfl (q_loadP (v := .one (.p false (Sl.t r56 s2))) 0 rfl sz23 rfl rfl rfl rfl) ?_
  obtain ⟨⟨n18, s19⟩, h17, h⟩ := bindS h
  refine tn_put rfl rfl rfl [] (by decide) rfl (hm0 rfl) rfl (q_callF (v := .agg [iC .i64 n18, .p true (Sl.t r56 s19)]) (args := [.one (iC .u8 n1), .one (.p false (Sl.t r56 s2))]) (law09_Some_r (m + 0) h17) rfl rfl (vw_cons (vd_one vc_v) (vw_cons (vd_one vc_s) vw_nil)) rfl rfl) ?_
  refine tn_put rfl rfl rfl [] (by decide) rfl (hm0 rfl) rfl (q_move (v := .one (iC .u8 n1)) rfl) ?_
  refine tn_put rfl rfl rfl [] (by decide) rfl (hm0 rfl) rfl (q_ixA (a := 1) ty37 rfl ty23 rfl rfl rfl rfl) ?_
  refine tn_put rfl rfl rfl [1] (by decide) rfl (hm0 rfl) rfl (q_loadP (v := .one (.p false (Sl.t r56 s3))) 0 rfl sz23 rfl rfl rfl rfl) ?_
  obtain ⟨⟨n21, s22⟩, h20, h⟩ := bindS h
  refine tn_put rfl rfl rfl [] (by decide) rfl (hm0 rfl) rfl (q_callF (v := .agg [iC .i64 n21, .p true (Sl.t r56 s22)]) (args := [.one (iC .u8 n1), .one (.p false (Sl.t r56 s3))]) (law09_Some_r (m + 0) h20) rfl rfl (vw_cons (vd_one vc_v) (vw_cons (vd_one vc_s) vw_nil)) rfl rfl) ?_
  refine tn_put rfl rfl rfl [] (by decide) rfl (hm0 rfl) rfl (q_move (v := .one (iC .u8 n1)) rfl) ?_
  refine tn_put rfl rfl rfl [] (by decide) rfl (hm0 rfl) rfl (q_ixA (a := 2) ty37 rfl ty23 rfl rfl rfl rfl) ?_
  refine tn_put rfl rfl rfl [1] (by decide) rfl (hm0 rfl) rfl (q_loadP (v := .one (.p false (Sl.t r56 s4))) 0 rfl sz23 rfl rfl rfl rfl) ?_
  obtain ⟨⟨n24, s25⟩, h23, h⟩ := bindS h
  refine tn_put rfl rfl rfl [] (by decide) rfl (hm0 rfl) rfl (q_callF (v := .agg [iC .i64 n24, .p true (Sl.t r56 s25)]) (args := [.one (iC .u8 n1), .one (.p false (Sl.t r56 s4))]) (law09_Some_r (m + 0) h23) rfl rfl (vw_cons (vd_one vc_v) (vw_cons (vd_one vc_s) vw_nil)) rfl rfl) ?_
  refine tn_put rfl rfl rfl [] (by decide) rfl (hm0 rfl) rfl (q_build (cs := [iC .i64 n18, .p true (Sl.t r56 s19), iC .i64 n21, .p true (Sl.t r56 s22), iC .i64 n24, .p true (Sl.t r56 s25)]) ty38 rfl rfl rfl) ?_
  refine tn_wr rfl rfl [0] (by decide) rfl (hm0 rfl) rfl (q_store (es' := [[iC .i64 n18, .p true (Sl.t r56 s19), iC .i64 n21, .p true (Sl.t r56 s22), iC .i64 n24, .p true (Sl.t r56 s25)]]) 0 rfl rfl rfl sz38 rfl rfl rfl rfl rfl) (q := 0) rfl rfl ?_
  refine tn_end ?_
  refine E_seq ?_
  refine L_ret ?_
  obtain rfl := Option.some.inj h
  exact E_endF (.inr rfl) (res_cell (d := .agg [iC .i64 n18, .p true (Sl.t r56 s19), iC .i64 n21, .p true (Sl.t r56 s22), iC .i64 n24, .p true (Sl.t r56 s25)]) 0 rfl sz38 rfl rfl rfl rfl res_nil) (vw_cons (vd_agg (vc_cons vc_v (vc_cons vc_s (vc_cons vc_v (vc_cons vc_s (vc_cons vc_v (vc_cons vc_s vc_nil))))))) vw_nil) (fun h hb => own_agg) rfl rfl
end Ev
end Go.Proofs.Ytlcfdmjkbaegpaa
