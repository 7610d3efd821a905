/- Texts of a claim, joined. -/
import Derived.Test.YtlkcneneagifoaaZD13
import Derived.Test.YtlkcneneagifoaaZD12
set_option linter.unusedVariables false
set_option linter.unusedSimpArgs false
section
namespace Go.Proofs.Ytlkcneneagifoaa
namespace Ev
namespace K
open Go Go.RowKit
set_option linter.unusedVariables false
set_option linter.unusedSimpArgs false
set_option maxRecDepth 100000
set_option maxHeartbeats 1000000
noncomputable def ax2 : Ax := (addAx (addAx (addAx (addAx (addAx (addAx (addAx (addAx (addAx (addAx (addAx (addAx (addAx (addAx (addAx (addAx (addAx (addAx (addAx (addAx (addAx (addAx (addAx (addAx (addAx (addAx (addAx (addAx (addAx (addAx (fun _ => none) 42 liveF) 18 (ranF E1 18)) 22 (ranF E1 22)) 23 (ranF E1 23)) 25 (ranF E1 25)) 26 (ranF E1 26)) 27 (ranF E1 27)) 31 (ranF E1 31)) 32 (ranF E1 32)) 35 (ranF E1 35)) 36 (ranF E1 36)) 39 (ranF E1 39)) 43 (ranF E1 43)) 44 (ranF E1 44)) 45 (ranF E1 45)) 46 (ranF E1 46)) 47 (ranF E1 47)) 48 (ranF E1 48)) 49 (ranF E1 49)) 50 (ranF E1 50)) 51 (ranF E1 51)) 52 (ranF E1 52)) 53 (ranF E1 53)) 54 (ranF E1 54)) 55 (ranF E1 55)) 57 (ranF E1 57)) 58 (ranF E1 58)) 59 (ranF E1 59)) 60 (ranF E1 60)) 61 (ranF E1 61))
theorem ent18 : Ev.Enters Try.prog 18 := ⟨_, _, Try.func18, by kernel_rfl, by unfold Try.f18; rfl⟩
theorem ent22 : Ev.Enters Try.prog 22 := ⟨_, _, Try.func22, by kernel_rfl, by unfold Try.f22; rfl⟩
theorem ent23 : Ev.Enters Try.prog 23 := ⟨_, _, Try.func23, by kernel_rfl, by unfold Try.f23; rfl⟩
theorem ent25 : Ev.Enters Try.prog 25 := ⟨_, _, Try.func25, by kernel_rfl, by unfold Try.f25; rfl⟩
theorem ent26 : Ev.Enters Try.prog 26 := ⟨_, _, Try.func26, by kernel_rfl, by unfold Try.f26; rfl⟩
theorem ent27 : Ev.Enters Try.prog 27 := ⟨_, _, Try.func27, by kernel_rfl, by unfold Try.f27; rfl⟩
theorem ent31 : Ev.Enters Try.prog 31 := ⟨_, _, Try.func31, by kernel_rfl, by unfold Try.f31; rfl⟩
theorem ent32 : Ev.Enters Try.prog 32 := ⟨_, _, Try.func32, by kernel_rfl, by unfold Try.f32; rfl⟩
theorem ent35 : Ev.Enters Try.prog 35 := ⟨_, _, Try.func35, by kernel_rfl, by unfold Try.f35; rfl⟩
theorem ent36 : Ev.Enters Try.prog 36 := ⟨_, _, Try.func36, by kernel_rfl, by unfold Try.f36; rfl⟩
theorem ent39 : Ev.Enters Try.prog 39 := ⟨_, _, Try.func39, by kernel_rfl, by unfold Try.f39; rfl⟩
theorem ent43 : Ev.Enters Try.prog 43 := ⟨_, _, Try.func43, by kernel_rfl, by unfold Try.f43; rfl⟩
theorem ent44 : Ev.Enters Try.prog 44 := ⟨_, _, Try.func44, by kernel_rfl, by unfold Try.f44; rfl⟩
theorem ent45 : Ev.Enters Try.prog 45 := ⟨_, _, Try.func45, by kernel_rfl, by unfold Try.f45; rfl⟩
theorem ent46 : Ev.Enters Try.prog 46 := ⟨_, _, Try.func46, by kernel_rfl, by unfold Try.f46; rfl⟩
theorem ent47 : Ev.Enters Try.prog 47 := ⟨_, _, Try.func47, by kernel_rfl, by unfold Try.f47; rfl⟩
theorem ent48 : Ev.Enters Try.prog 48 := ⟨_, _, Try.func48, by kernel_rfl, by unfold Try.f48; rfl⟩
theorem ent49 : Ev.Enters Try.prog 49 := ⟨_, _, Try.func49, by kernel_rfl, by unfold Try.f49; rfl⟩
theorem ent50 : Ev.Enters Try.prog 50 := ⟨_, _, Try.func50, by kernel_rfl, by unfold Try.f50; rfl⟩
theorem ent51 : Ev.Enters Try.prog 51 := ⟨_, _, Try.func51, by kernel_rfl, by unfold Try.f51; rfl⟩
theorem ent52 : Ev.Enters Try.prog 52 := ⟨_, _, Try.func52, by kernel_rfl, by unfold Try.f52; rfl⟩
theorem ent53 : Ev.Enters Try.prog 53 := ⟨_, _, Try.func53, by kernel_rfl, by unfold Try.f53; rfl⟩
theorem ent54 : Ev.Enters Try.prog 54 := ⟨_, _, Try.func54, by kernel_rfl, by unfold Try.f54; rfl⟩
theorem ent55 : Ev.Enters Try.prog 55 := ⟨_, _, Try.func55, by kernel_rfl, by unfold Try.f55; rfl⟩
theorem ent57 : Ev.Enters Try.prog 57 := ⟨_, _, Try.func57, by kernel_rfl, by unfold Try.f57; rfl⟩
theorem ent58 : Ev.Enters Try.prog 58 := ⟨_, _, Try.func58, by kernel_rfl, by unfold Try.f58; rfl⟩
theorem ent59 : Ev.Enters Try.prog 59 := ⟨_, _, Try.func59, by kernel_rfl, by unfold Try.f59; rfl⟩
theorem ent60 : Ev.Enters Try.prog 60 := ⟨_, _, Try.func60, by kernel_rfl, by unfold Try.f60; rfl⟩
theorem ent61 : Ev.Enters Try.prog 61 := ⟨_, _, Try.func61, by kernel_rfl, by unfold Try.f61; rfl⟩
theorem ax2_ok : AxOk Try.prog ax2 := (axOk_add (axOk_add (axOk_add (axOk_add (axOk_add (axOk_add (axOk_add (axOk_add (axOk_add (axOk_add (axOk_add (axOk_add (axOk_add (axOk_add (axOk_add (axOk_add (axOk_add (axOk_add (axOk_add (axOk_add (axOk_add (axOk_add (axOk_add (axOk_add (axOk_add (axOk_add (axOk_add (axOk_add (axOk_add (axOk_add (axOk_none _) liveV_ax) (ranF_ok E1_ok ent18)) (ranF_ok E1_ok ent22)) (ranF_ok E1_ok ent23)) (ranF_ok E1_ok ent25)) (ranF_ok E1_ok ent26)) (ranF_ok E1_ok ent27)) (ranF_ok E1_ok ent31)) (ranF_ok E1_ok ent32)) (ranF_ok E1_ok ent35)) (ranF_ok E1_ok ent36)) (ranF_ok E1_ok ent39)) (ranF_ok E1_ok ent43)) (ranF_ok E1_ok ent44)) (ranF_ok E1_ok ent45)) (ranF_ok E1_ok ent46)) (ranF_ok E1_ok ent47)) (ranF_ok E1_ok ent48)) (ranF_ok E1_ok ent49)) (ranF_ok E1_ok ent50)) (ranF_ok E1_ok ent51)) (ranF_ok E1_ok ent52)) (ranF_ok E1_ok ent53)) (ranF_ok E1_ok ent54)) (ranF_ok E1_ok ent55)) (ranF_ok E1_ok ent57)) (ranF_ok E1_ok ent58)) (ranF_ok E1_ok ent59)) (ranF_ok E1_ok ent60)) (ranF_ok E1_ok ent61))
noncomputable def E2 : Env := envOf Try.prog ax2
theorem E2_ok : E2.Ok := envOf_ok mixed0 names0 ax2_ok
theorem TT2_ok : AllT E2 TT := TT_ok
theorem EQS2_ok : AllQ E2.P EQS := EQS_ok
theorem csr_Count_ok2 : EntryOk E2 (entF csr_Count_E) := entF_ok csr_Count_ok (by decide) (by kernel_rfl)
theorem ref07_SameItems_ok2 : EntryOk E2 (entF ref07_SameItems_E) := entF_ok ref07_SameItems_ok (by decide) (by kernel_rfl)
theorem csr_Row_ok2 : EntryOk E2 (entF csr_Row_E) := entF_ok csr_Row_ok (by decide) (by kernel_rfl)
theorem csr_Turn_ok2 : EntryOk E2 (entF csr_Turn_E) := entF_ok csr_Turn_ok (by decide) (by kernel_rfl)
theorem csr_Same_ok2 : EntryOk E2 (entF csr_Same_E) := entF_ok csr_Same_ok (by decide) (by kernel_rfl)
theorem csr_Graph_ok2 : EntryOk E2 (entF csr_Graph_E) := entF_ok csr_Graph_ok (by decide) (by kernel_rfl)
theorem dcsc_Column_ok2 : EntryOk E2 (entF dcsc_Column_E) := entF_ok dcsc_Column_ok (by decide) (by kernel_rfl)
theorem dcsc_Of_ok2 : EntryOk E2 (entF dcsc_Of_E) := entF_ok dcsc_Of_ok (by decide) (by kernel_rfl)
theorem dcsc_Count_ok2 : EntryOk E2 (entF dcsc_Count_E) := entF_ok dcsc_Count_ok (by decide) (by kernel_rfl)
theorem law21_Graph_ok2 : EntryOk E2 (entF law21_Graph_E) := entF_ok law21_Graph_ok (by decide) (by kernel_rfl)
theorem edges_Turn_ok2 : EntryOk E2 (entF edges_Turn_E) := entF_ok edges_Turn_ok (by decide) (by kernel_rfl)
theorem edges_Outs_ok2 : EntryOk E2 (entF edges_Outs_E) := entF_ok edges_Outs_ok (by decide) (by kernel_rfl)
theorem edges_Canon_ok2 : EntryOk E2 (entF edges_Canon_E) := entF_ok edges_Canon_ok (by decide) (by kernel_rfl)
noncomputable def fi13 : FI := fiF Try.f13
def top_TopTurned_A : AnnK := [(13, ⟨[⟨false, 9, 0, [1, 3, 5, 7, 8], ⟨[(9, false, [.d true (.I .i64)])], [], []⟩, [(.exit 0, ⟨[], [], []⟩), (.ret, ⟨[(2, false, [.d true .B])], [], []⟩)]⟩], []⟩)]
noncomputable def top_TopTurned_G : KG := ⟨TT, EQS, [entF csr_Count_E, entF ref07_SameItems_E, entF csr_Row_E, entF csr_Turn_E, entF csr_Same_E, entF csr_Graph_E, entF dcsc_Column_E, entF dcsc_Of_E, entF dcsc_Count_E, entF law21_Graph_E, entF edges_Turn_E, entF edges_Outs_E, entF edges_Canon_E], []⟩
noncomputable def top_TopTurned : vals [yD2] → Option (OutK.val (.data true [(false, .B)])) := funK top_TopTurned_G top_TopTurned_A fi13 13 0 [yD2] (.data true [(false, .B)])
noncomputable def top_TopTurned_E : Entry := ⟨13, [yD2], .data true [(false, .B)], top_TopTurned, 2⟩
theorem top_TopTurned_Gok : GOk top_TopTurned_G E2 1 := gok E2_ok TT2_ok EQS2_ok ⟨⟨by decide, csr_Count_ok2⟩, ⟨⟨by decide, ref07_SameItems_ok2⟩, ⟨⟨by decide, csr_Row_ok2⟩, ⟨⟨by decide, csr_Turn_ok2⟩, ⟨⟨by decide, csr_Same_ok2⟩, ⟨⟨by decide, csr_Graph_ok2⟩, ⟨⟨by decide, dcsc_Column_ok2⟩, ⟨⟨by decide, dcsc_Of_ok2⟩, ⟨⟨by decide, dcsc_Count_ok2⟩, ⟨⟨by decide, law21_Graph_ok2⟩, ⟨⟨by decide, edges_Turn_ok2⟩, ⟨⟨by decide, edges_Outs_ok2⟩, ⟨⟨by decide, edges_Canon_ok2⟩, trivial⟩⟩⟩⟩⟩⟩⟩⟩⟩⟩⟩⟩⟩ trivial
theorem fnW13 : E2.fn 13 = some fi13 := fn_of Try.func13 (by unfold Try.f13; rfl)
theorem top_TopTurned_ok : EntryOk E2 top_TopTurned_E := mkE_ok top_TopTurned_Gok (by kernel_rfl) fnW13 (by kernel_rfl) rfl
end K
end Ev
end Go.Proofs.Ytlkcneneagifoaa
end
section
namespace Go.Proofs.Ytlkcneneagifoaa
namespace Ev
open Go Go.RowKit
noncomputable def top_TopTurned (x : Int × (Sl (Int × Int × Int))) : Option (Bool) := K.top_TopTurned x
noncomputable def dcsc_Of (x : Int × Int × Sl (Int) × Sl (Int) × Sl (Int)) : Option (Int × Int × Sl (Int) × Sl (Int) × Sl (Int) × Sl (Int)) := K.dcsc_Of x
end Ev
end Go.Proofs.Ytlkcneneagifoaa
end
section
namespace Go.Proofs.Ytlkcneneagifoaa
namespace Ev
open Go Go.RowKit
set_option linter.unusedVariables false
set_option maxRecDepth 100000
set_option maxHeartbeats 1000000
noncomputable def top_TopTurned_b1 (out : Int × Sl yT) (out'2 : (yM) × Int) (out'4 : Sl Int) (out'6 : yC) : Int → Option (Int ⊕ PUnit ⊕ Bool ⊕ Empty) := fun (x : Int) => if x < out.fst then ((dcsc_Column out'6 x).map fun x => { nn := true, sz := 2, l := x }).bind fun (out : Sl (Int × Int)) => (atS 1 out'4 x).bind fun (y : Int) => if (↑out.l.length : Int) ≠ y then some (Sum.inr (Sum.inr (Sum.inl false))) else ((dcsc_Column out'6 x).map fun x => { nn := true, sz := 2, l := x }).bind fun (out : Sl (Int × Int)) => ((csr_Row out'2.fst x).map fun x => { nn := true, sz := 2, l := x }).bind fun (out_1 : Sl (Int × Int)) => ((ref07_SameItems out out_1).map fun x => x).bind fun (out : Bool) => if ¬out = true then some (Sum.inr (Sum.inr (Sum.inl false))) else some (Sum.inl (IntKind.i64.wrap (x + 1))) else some (Sum.inr (Sum.inl ()))
theorem top_TopTurned_eq (x : Int × Sl yT) : top_TopTurned x = ((law21_Graph x).map fun x => x).bind fun (out : Int × Sl yT) => ((csr_Graph out).map fun x => x).bind fun (out_1 : (yM) × Int) => ((edges_Turn out).map fun x => x).bind fun (out_2 : Int × Sl yT) => ((csr_Graph out_2).map fun x => x).bind fun (out_3 : (yM) × Int) => ((edges_Canon out).map fun x => x).bind fun (out_4 : Int × Sl yT) => ((edges_Outs out_4).map fun x => x).bind fun (out_5 : Sl Int) => ((dcsc_Of out_1.fst).map fun x => x).bind fun (out_6 : yC) => if out_1.snd ≠ 0 then some false else if out_3.snd ≠ 0 then some false else if (↑out_5.l.length : Int) ≠ out.fst then some false else ((csr_Turn out_1.fst).map fun x => x).bind fun (out_7 : yM) => ((csr_Same out_7 out_3.fst).map fun x => x).bind fun (out_8 : Bool) => if ¬out_8 = true then some false else (loopO (top_TopTurned_b1 out out_3 out_5 out_6) 0).bind fun (y : PUnit ⊕ Bool ⊕ Empty) => Sum.elim (fun (val : PUnit) => ((csr_Graph (1, { nn := true, sz := 3, l := [(0, 0, 4)] })).map fun x => x).bind fun (out : (yM) × Int) => ((csr_Count out.fst).map fun x => x).bind fun (out : Int) => if out = 1 then ((dcsc_Count out_6).map fun x => x).bind fun (out : Int) => ((csr_Count out_1.fst).map fun x => x).bind fun (out_9 : Int) => some (decide (out = out_9)) else some false) (fun (val : Bool ⊕ Empty) => Sum.elim (fun (val : Bool) => some val) (fun (val : Empty) => nE val) val) y := by kernel_rfl
end Ev
end Go.Proofs.Ytlkcneneagifoaa
end
section
namespace Go.Proofs.Ytlkcneneagifoaa
namespace Ev
open Go Sm
set_option linter.unusedVariables false
set_option linter.unusedSimpArgs false
section
variable {m a : Mx} {n k : Int} {l T : List E3} {c q : Cx}
theorem Of_is (h : Is m n k l) : ∃ q, dcsc_Of m = some q ∧ IsC q n k (turnL l) := dcsc_Of_is h
theorem decT : some (decide (true = true)) = some true := congrArg some (decide_eq_true rfl)
theorem items_same2 {z : List (Int × Int)} (h : z.length ≤ 9223372036854775806) : ref07_SameItems ⟨true, 2, z⟩ ⟨true, 2, z⟩ = some true := by
 rw [SameItems_w h (.inr rfl) (.inr rfl)]
 exact congrArg some (decide_eq_true rfl)
end
end Ev
end Go.Proofs.Ytlkcneneagifoaa
end
section
namespace Go.Proofs.Ytlkcneneagifoaa
namespace Ev
open Go Sm
set_option linter.unusedVariables false
set_option linter.unusedSimpArgs false
abbrev Gr := Int × Sl E3
theorem bad_loop {l : List E3} (p : E3 → Bool) (v : Nat → Int) {b : Int → Option (Int ⊕ PUnit ⊕ Int ⊕ Empty)} (h1 : ∀ j : Nat, (h : j < l.length) → b j = some (if p l[j] = true then .inl ((j + 1 : Nat) : Int) else .inr (.inr (.inl (v j))))) (h2 : b (l.length : Nat) = some (.inr (.inl ()))) :
  (l.all p = true ∧ loopO b 0 = some (.inl ())) ∨ (l.all p = false ∧ ∃ j, loopO b 0 = some (.inr (.inl (v j)))) := by
 obtain ⟨q, q1, q2⟩ := loop_up (b := b) l.length (fun j a => a = (j : Int) ∧ (l.take j).all p = true) (fun q => (l.all p = true ∧ q = .inl ()) ∨ (l.all p = false ∧ ∃ j, q = .inr (.inl (v j))))
  (by
   rintro j _ hj ⟨rfl, g⟩
   rw [h1 j hj]
   by_cases hp : p l[j] = true
   ·refine .inl ⟨_, by rw [if_pos hp], rfl, ?_⟩
    rw [List.take_succ_eq_append_getElem hj, List.all_append, g]
    simp [hp]
   ·refine .inr ⟨_, by rw [if_neg hp], .inr ⟨all_f hj (by simpa using hp), j, rfl⟩⟩)
  (by
   rintro _ ⟨rfl, g⟩
   rw [List.take_length] at g
   exact ⟨_, h2, .inl ⟨g, rfl⟩⟩) 0 (Nat.zero_le _) 0 ⟨rfl, rfl⟩
 rw [q1]
 rcases q2 with ⟨a, rfl⟩ | ⟨a, j, rfl⟩
 ·exact .inl ⟨a, rfl⟩
 ·exact .inr ⟨a, j, rfl⟩
def wOk (x : E3) : Bool := decide (0 ≤ x.2.2 ∧ x.2.2 ≤ 2147483647)
def wrongG (g : Gr) : Int := if g.1 < 0 then 3 else if g.1 > 4096 then 5 else if g.2.l.length > 65536 then 5 else if g.2.l.all (inM g.1 g.1) = true then if g.2.l.all wOk = true then 0 else 7 else 3
theorem vertex_w (x y : Int) : edges_vertex x y = some (decide (0 ≤ y ∧ y < x)) := by
 rw [edges_vertex_eq]
 by_cases h : y ≥ 0
 ·rw [if_pos h]
  by_cases h2 : y < x
  ·rw [decide_eq_true h2, decide_eq_true ⟨h, h2⟩]
  ·rw [decide_eq_false h2, decide_eq_false fun hh => h2 hh.2]
 ·rw [if_neg h, decide_eq_false fun hh => h hh.1]
section
variable {g : Gr}
theorem ends_step (hs : okS 3 g.2) (hl : g.2.l.length ≤ 65536) (j : Nat) (hj : j < g.2.l.length) : edges_Right_b1 g (j : Int) = some (if inM g.1 g.1 g.2.l[j] = true then .inl ((j + 1 : Nat) : Int) else .inr (.inr (.inl (j : Int)))) := by
 have e := at_get hs hj
 simp only [edges_Right_b1, e, Option.bind_some, w_succ hj (by omega), vertex_w]
 rw [if_pos (by omega)]
 unfold inM
 simp only [decide_eq_true_eq]
 by_cases h1 : 0 ≤ g.2.l[j].1 ∧ g.2.l[j].1 < g.1
 ·rw [if_neg (fun h => h h1)]
  by_cases h2 : 0 ≤ g.2.l[j].2.1 ∧ g.2.l[j].2.1 < g.1
  ·rw [if_neg (fun h => h h2), if_pos ⟨h1.1, h1.2, h2.1, h2.2⟩]
  ·rw [if_pos h2, if_neg (fun h => h2 ⟨h.2.2.1, h.2.2.2⟩)]
 ·rw [if_pos h1, if_neg (fun h => h1 ⟨h.1, h.2.1⟩)]
theorem wt_step (hs : okS 3 g.2) (hl : g.2.l.length ≤ 65536) (j : Nat) (hj : j < g.2.l.length) : edges_Right_b2 g (j : Int) = some (if wOk g.2.l[j] = true then .inl ((j + 1 : Nat) : Int) else .inr (.inr (.inl (j : Int)))) := by
 have e := at_get hs hj
 simp only [edges_Right_b2, e, Option.bind_some, w_succ hj (by omega)]
 rw [if_pos (by omega)]
 unfold wOk
 simp only [decide_eq_true_eq]
 by_cases h1 : g.2.l[j].2.2 < 0
 ·rw [if_pos h1, if_neg (by omega)]
 ·by_cases h2 : g.2.l[j].2.2 > 2147483647
  ·rw [if_neg h1, if_pos h2, if_neg (by omega)]
  ·rw [if_neg h1, if_neg h2, if_pos (by omega)]
theorem edges_Right_w (hs : okS 3 g.2) : edges_Right g = some (wrongG g) := by
 rw [edges_Right_eq]
 unfold wrongG
 by_cases h1 : g.1 < 0
 ·rw [if_pos h1, if_pos h1]
 by_cases h2 : g.1 > 4096
 ·rw [if_neg h1, if_pos h2, if_neg h1, if_pos h2]
 by_cases h3 : g.2.l.length > 65536
 ·rw [if_neg h1, if_neg h2, if_pos (by omega), if_neg h1, if_neg h2, if_pos h3]
 rw [if_neg h1, if_neg h2, if_neg (by omega), if_neg h1, if_neg h2, if_neg h3]
 rcases bad_loop (l := g.2.l) (inM g.1 g.1) (fun j => (j : Int)) (ends_step hs (by omega)) (by simp only [edges_Right_b1]; rw [if_neg (by omega)]) with ⟨a, q⟩ | ⟨a, j, q⟩
 ·rw [q, if_pos a]
  simp only [Option.bind_some, Sum.elim_inl]
  rcases bad_loop (l := g.2.l) wOk (fun j => (j : Int)) (wt_step hs (by omega)) (by simp only [edges_Right_b2]; rw [if_neg (by omega)]) with ⟨a, q⟩ | ⟨a, j, q⟩
  ·rw [q, if_pos a]; rfl
  ·rw [q, if_neg (by rw [a]; simp)]
   simp only [Option.bind_some, Sum.elim_inl, Sum.elim_inr]
   rw [if_pos (by omega)]
 ·rw [q, if_neg (by rw [a]; simp)]
  simp only [Option.bind_some, Sum.elim_inl, Sum.elim_inr]
  rw [if_pos (by omega)]
def canG (g : Gr) : List E3 := (sumR (RG 1) g.2.l).1
theorem wrong_none (h : wrongG g = 0) : (0 ≤ g.1 ∧ g.1 ≤ 4096) ∧ g.2.l.length ≤ 65536 ∧ g.2.l.all (inM g.1 g.1) = true := by
 unfold wrongG at h
 by_cases h1 : g.1 < 0
 ·rw [if_pos h1] at h; omega
 by_cases h2 : g.1 > 4096
 ·rw [if_neg h1, if_pos h2] at h; omega
 by_cases h3 : g.2.l.length > 65536
 ·rw [if_neg h1, if_neg h2, if_pos h3] at h; omega
 by_cases h4 : g.2.l.all (inM g.1 g.1) = true
 ·exact ⟨by omega, by omega, h4⟩
 ·rw [if_neg h1, if_neg h2, if_neg h3, if_neg h4] at h; omega
theorem graph_loop {s : Gr} {l : List E3} (hs : okS 3 s.2) (e : s.2.l = l) (hl : l.length ≤ 65536) : loopO (csr_Graph_b1 s) (List.replicate (Int.toNat 0) (0, 0, 0), 0) = some (.inl l) := by
 subst e
 refine loop_stop s.2.l.length (fun j => (s.2.l.take j, ((j : Nat) : Int))) rfl (fun j hj => ?_) ?_
 ·have e := at_get hs hj
  simp only [csr_Graph_b1, e, Option.bind_some, w_succ hj (by omega)]
  rw [if_pos (by omega), app_ok (by simp [bound]; omega), List.take_succ_eq_append_getElem hj]
  rfl
 ·simp only [csr_Graph_b1]
  rw [if_neg (by omega), List.take_length]
theorem csr_Graph_w (hs : okS 3 g.2) (hn : g.2.nn = false → g.2.l = []) (hw : w64 g.2.l) (h : wrongG g = 0) : ∃ m, csr_Graph g = some (m, 0) ∧ Is m g.1 g.1 (turnL (canG g)) := by
 obtain ⟨h1, h2, h3⟩ := wrong_none h
 obtain ⟨s, e1, e2, e3, e4⟩ := edges_Combine_w (r := 1) (by decide) hs hn h2 hw
 obtain ⟨s1, s2, s3, s4⟩ := sum_spec (r := 1) (l := g.2.l)
 have hl : (canG g).length ≤ 65536 := by unfold canG; omega
 have hm : Is (matV g.1 g.1 (canG g)) g.1 g.1 (canG g) := is_mat h1 h1 hl s1 (rows_in h3) fun x hx => (s3 x hx).1
 obtain ⟨m, t1, t2⟩ := csr_Turn_is hm
 rw [csr_Graph_eq, edges_Right_w hs, h]
 simp only [Option.bind_some, ne_eq, not_true_eq_false, if_false]
 rw [show capOk 0 (g.2.l.length : Int) = some () by unfold capOk; split <;> first | rfl | (rw [if_pos ⟨by omega, by unfold bound; omega⟩])]
 rw [show lenOk 0 = some () from len_ok (n := 0) (by omega), edges_Canon_eq, e1]
 simp only [Option.bind_some]
 rw [graph_loop (s := (g.1, s)) (l := canG g) e2 (by first | exact e4 | exact e3) hl]
 simp only [Option.bind_some, Sum.elim_inl]
 rw [csr_build_w (s := ⟨true, 3, canG g⟩) h1 (.inr rfl) hl (fun x hx => (hm.p x hx).1)]
 simp only [Option.bind_some]
 rw [t1]
 exact ⟨m, rfl, t2⟩
end
end Ev
end Go.Proofs.Ytlkcneneagifoaa
end
