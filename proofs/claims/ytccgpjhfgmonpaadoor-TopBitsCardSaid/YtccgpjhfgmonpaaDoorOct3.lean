/- Package octet: what catches a read that gave up. -/
import Derived.Test.YtccgpjhfgmonpaaDoorOct2
namespace Go.Proofs.YtccgpjhfgmonpaaDoor
open Go.RowKit Go.Sort
set_option linter.unusedVariables false

@[go_sem] theorem as_gave (v : Value) (xT : TypeId) (w : World) : (Instr.typeAssert (.iface 76 v) xT 76 true).run Tryd.prog w = .ok (.tuple #[v, .bool true]) w := by kernel_rfl

theorem catch64_thrown (B R : Nat) (v : Value) (p e fa e2 fa2 : Int) (older : List PanicEntry) (w : World) (hB : CellsAt w B 49 #[.pointer (some ⟨R, 0, none⟩)]) (hR : CellsAt w R 70 (rdr v p e fa)) :
    CallsD Tryd.prog 66 #[.pointer (some ⟨B, 0, none⟩)] (.panicking (gaveUp e2 fa2 :: older)) w fun x u' w' =>
      x = .returned (.tuple #[]) ∧ u' = .panicking ({ gaveUp e2 fa2 with recovered := true } :: older) ∧ CellsAt w' R 70 (rdr v p e2 fa2) ∧ w.grownBy w' (some R) := by
  have c0 : w.cell? ⟨B, 0, none⟩ = some (.pointer (some ⟨R, 0, none⟩)) := hB.cell 0
  have c2 : w.cell? ⟨R, 2, none⟩ = some (.int .i64 e) := hR.cell 2
  have c3 : w.cell? ⟨R, 3, none⟩ = some (.int .i64 fa) := hR.cell 3
  have f2 := hR.frozen 2
  have f3 := hR.frozen 3
  have kB : Has w B := hB.lt
  have kR : Has w R := hR.lt
  refine callsD_of_wpS Tryd.func66 rfl fun c₀ cs hu => ?_
  apply wpS_seq
  apply wpS_region
  simp [wpOpsS, go_sem, recoverD, hu, Tryd.ntmps66, Exit.thenS]
  refine wpS_of_wp ?_
  generalize hQ : (fun (e : Exit) (a' : Act) (w' : World) => bodyPostS _ _ _ _ _ e a' _ w') = Q
  simp only [Array.replicate_succ, Array.replicate_zero, List.push_toArray, List.append_toArray, List.nil_append, List.cons_append, List.setIfInBounds_toArray, List.set_cons_zero, List.set_cons_succ]
  go_wp2_with fail
  subst hQ
  have h1 := (hR.set 2 (.int .i64 e2)).set 3 (.int .i64 fa2)
  have h2 := grownBy_trans (grownBy_setCell'' w R 2 (.int .i64 e2)) (grownBy_setCell'' _ R 3 (.int .i64 fa2))
  refine ⟨rfl, _, rfl, _, by simp [results, Tryd.results66, go_sem], rfl, rfl, h1.below (bl1 _ _), grownBy_trans h2 (grownBy_of_below (bl1 _ _) _)⟩

theorem catch64_idle (B : Nat) (w : World) :
    CallsD Tryd.prog 66 #[.pointer (some ⟨B, 0, none⟩)] .returning w fun x u' w' => x = .returned (.tuple #[]) ∧ u' = .returning ∧ w' = w := by
  refine callsD_of_wpS Tryd.func66 rfl fun c₀ cs hu => ?_
  apply wpS_seq
  apply wpS_region
  simp [wpOpsS, go_sem, recoverD, hu, Tryd.ntmps66, Exit.thenS]
  refine wpS_of_wp ?_
  generalize hQ : (fun (e : Exit) (a' : Act) (w' : World) => bodyPostS _ _ _ _ _ e a' _ w') = Q
  simp only [Array.replicate_succ, Array.replicate_zero, List.push_toArray, List.append_toArray, List.nil_append, List.cons_append, List.setIfInBounds_toArray, List.set_cons_zero, List.set_cons_succ]
  go_wp2_with fail
  subst hQ
  cases c₀
  simp only at hu
  subst hu
  exact ⟨rfl, _, rfl, _, by simp [results, Tryd.results66, go_sem], rfl, rfl, rfl⟩
end Go.Proofs.YtccgpjhfgmonpaaDoor
