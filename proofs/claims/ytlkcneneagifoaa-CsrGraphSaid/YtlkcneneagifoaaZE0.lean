/- Texts of a claim, joined. -/
import Derived.Test.YtlkcneneagifoaaZB13
import Derived.Test.YtlkcneneagifoaaProg
section
namespace Go.Proofs.Ytlkcneneagifoaa
namespace Ev
namespace K
open Go Go.RowKit
set_option linter.unusedVariables false
set_option linter.unusedSimpArgs false
set_option maxRecDepth 100000
set_option maxHeartbeats 1000000
noncomputable def fi5 : FI := fiF Try.f5
noncomputable def fi36 : FI := fiF Try.f36
noncomputable def fi37 : FI := fiF Try.f37
noncomputable def fi38 : FI := fiF Try.f38
noncomputable def fi61 : FI := fiF Try.f61
noncomputable def fi80 : FI := fiF Try.f80
noncomputable def fi106 : FI := fiF Try.f106
noncomputable def fi107 : FI := fiF Try.f107
noncomputable def fi108 : FI := fiF Try.f108
noncomputable def fi109 : FI := fiF Try.f109
noncomputable def fi127 : FI := fiF Try.f127
end K
end Ev
end Go.Proofs.Ytlkcneneagifoaa
end
section
namespace Go.Proofs.Ytlkcneneagifoaa
namespace Ev
namespace K
open Go Go.RowKit
set_option linter.unusedVariables false
set_option linter.unusedSimpArgs false
theorem hand_fresh {E : Env} {k : FuncId} {ins : List TyD} {ts : List TyD} {g : vals ins → Option (vals ts)} (hx : E.ax k = some (handF ins .fresh ts g)) : EntryOk E ⟨k, ins, .data true ts, g, 1⟩ := fun m a x h => hand_runs hx m a x h
end K
end Ev
end Go.Proofs.Ytlkcneneagifoaa
end
section
namespace Go.Proofs.Ytlkcneneagifoaa
namespace Ev
namespace K
open Go Go.RowKit
set_option linter.unusedVariables false
set_option linter.unusedSimpArgs false
set_option maxRecDepth 100000
set_option maxHeartbeats 1000000
noncomputable def edges_Combine : vals Sm.Eg.ins → Option (vals Sm.Eg.outs) := Sm.Eg.fn
noncomputable def edges_Combine_E : Entry := ⟨93, Sm.Eg.ins, .data true Sm.Eg.outs, edges_Combine, 1⟩
theorem edges_Combine_ok : EntryOk E1 edges_Combine_E := hand_fresh rfl
theorem fn5 : E1.fn 5 = some fi5 := fn_of Try.func5 rfl
theorem fn36 : E1.fn 36 = some fi36 := fn_of Try.func36 rfl
theorem fn37 : E1.fn 37 = some fi37 := fn_of Try.func37 rfl
theorem fn38 : E1.fn 38 = some fi38 := fn_of Try.func38 rfl
theorem fn61 : E1.fn 61 = some fi61 := fn_of Try.func61 rfl
theorem fn80 : E1.fn 80 = some fi80 := fn_of Try.func80 rfl
theorem fn106 : E1.fn 106 = some fi106 := fn_of Try.func106 rfl
theorem fn107 : E1.fn 107 = some fi107 := fn_of Try.func107 rfl
theorem fn108 : E1.fn 108 = some fi108 := fn_of Try.func108 rfl
theorem fn109 : E1.fn 109 = some fi109 := fn_of Try.func109 rfl
theorem fn127 : E1.fn 127 = some fi127 := fn_of Try.func127 rfl
end K
end Ev
end Go.Proofs.Ytlkcneneagifoaa
end
section
namespace Go.Proofs.Ytlkcneneagifoaa
namespace Ev
namespace K
open Go Go.RowKit
set_option linter.unusedVariables false
set_option linter.unusedSimpArgs false
set_option maxRecDepth 100000
set_option maxHeartbeats 1000000
def edges_vertex_A : AnnK := []
noncomputable def edges_vertex_G : KG := ⟨TT, EQS, [], []⟩
noncomputable def edges_vertex : vals [(false, .I .i64), (false, .I .i64)] → Option (OutK.val (.data true [(false, .B)])) := funK edges_vertex_G edges_vertex_A fi108 108 0 [(false, .I .i64), (false, .I .i64)] (.data true [(false, .B)])
noncomputable def edges_vertex_E : Entry := ⟨108, [(false, .I .i64), (false, .I .i64)], .data true [(false, .B)], edges_vertex, 1⟩
def edges_Right_A : AnnK := [(127, ⟨[⟨false, 2, 0, [0, 1, 7], ⟨[(8, false, [.d true (.I .i64)])], [], []⟩, [(.exit 0, ⟨[], [], []⟩), (.ret, ⟨[(4, false, [.d true (.I .i64)])], [], []⟩)]⟩], []⟩)]
noncomputable def edges_Right_G : KG := ⟨TT, EQS, [edges_vertex_E], [(106, fi106), (107, fi107), (109, fi109), (127, fi127)]⟩
noncomputable def edges_Right : vals [(true, .C (.I .i64) (.S (.C (.I .i64) (.C (.I .i64) (.I .i64)))))] → Option (OutK.val (.data true [(false, .I .i64)])) := funK edges_Right_G edges_Right_A fi80 80 6 [(true, .C (.I .i64) (.S (.C (.I .i64) (.C (.I .i64) (.I .i64)))))] (.data true [(false, .I .i64)])
noncomputable def edges_Right_E : Entry := ⟨80, [(true, .C (.I .i64) (.S (.C (.I .i64) (.C (.I .i64) (.I .i64)))))], .data true [(false, .I .i64)], edges_Right, 8⟩
def edges_Canon_A : AnnK := []
noncomputable def edges_Canon_G : KG := ⟨TT, EQS, [edges_Combine_E], []⟩
noncomputable def edges_Canon : vals [(true, .C (.I .i64) (.S (.C (.I .i64) (.C (.I .i64) (.I .i64)))))] → Option (OutK.val (.data true [(true, .C (.I .i64) (.S (.C (.I .i64) (.C (.I .i64) (.I .i64)))))])) := funK edges_Canon_G edges_Canon_A fi61 61 0 [(true, .C (.I .i64) (.S (.C (.I .i64) (.C (.I .i64) (.I .i64)))))] (.data true [(true, .C (.I .i64) (.S (.C (.I .i64) (.C (.I .i64) (.I .i64)))))])
noncomputable def edges_Canon_E : Entry := ⟨61, [(true, .C (.I .i64) (.S (.C (.I .i64) (.C (.I .i64) (.I .i64)))))], .data true [(true, .C (.I .i64) (.S (.C (.I .i64) (.C (.I .i64) (.I .i64)))))], edges_Canon, 2⟩
def csr_Graph_A : AnnK := [(36, ⟨[⟨false, 6, 0, [1, 2, 20, 21], ⟨[(5, false, [.o (.C (.I .i64) (.C (.I .i64) (.I .i64)))]), (22, false, [.d true (.I .i64)])], [], []⟩, [(.exit 0, ⟨[(5, false, [.o (.C (.I .i64) (.C (.I .i64) (.I .i64)))])], [], []⟩)]⟩], []⟩)]
noncomputable def csr_Graph_G : KG := ⟨TT, EQS, [csr_Turn_E, edges_Canon_E, csr_build_E, edges_Right_E], []⟩
noncomputable def csr_Graph : vals [(true, .C (.I .i64) (.S (.C (.I .i64) (.C (.I .i64) (.I .i64)))))] → Option (OutK.val (.data true [(true, .C (.I .i64) (.C (.I .i64) (.C (.S (.I .i64)) (.C (.S (.I .i64)) (.S (.I .i64)))))), (false, .I .i64)])) := funK csr_Graph_G csr_Graph_A fi36 36 0 [(true, .C (.I .i64) (.S (.C (.I .i64) (.C (.I .i64) (.I .i64)))))] (.data true [(true, .C (.I .i64) (.C (.I .i64) (.C (.S (.I .i64)) (.C (.S (.I .i64)) (.S (.I .i64)))))), (false, .I .i64)])
noncomputable def csr_Graph_E : Entry := ⟨36, [(true, .C (.I .i64) (.S (.C (.I .i64) (.C (.I .i64) (.I .i64)))))], .data true [(true, .C (.I .i64) (.C (.I .i64) (.C (.S (.I .i64)) (.C (.S (.I .i64)) (.S (.I .i64)))))), (false, .I .i64)], csr_Graph, 16⟩
def ref05_Right_A : AnnK := [(37, ⟨[⟨false, 6, 0, [1], ⟨[(3, false, [.d true (.I .i64)])], [], []⟩, [(.exit 0, ⟨[], [], []⟩), (.ret, ⟨[(2, false, [.d true (.I .i64)])], [], []⟩)]⟩, ⟨false, 12, 0, [1], ⟨[(5, false, [.d true (.I .i64)])], [], []⟩, [(.exit 2, ⟨[], [], []⟩), (.ret, ⟨[(2, false, [.d true (.I .i64)])], [], []⟩)]⟩], []⟩)]
noncomputable def ref05_Right_G : KG := ⟨TT, EQS, [], []⟩
noncomputable def ref05_Right : vals [(true, .C (.I .i64) (.S (.C (.I .i64) (.C (.I .i64) (.I .i64)))))] → Option (OutK.val (.data true [(false, .I .i64)])) := funK ref05_Right_G ref05_Right_A fi37 37 0 [(true, .C (.I .i64) (.S (.C (.I .i64) (.C (.I .i64) (.I .i64)))))] (.data true [(false, .I .i64)])
noncomputable def ref05_Right_E : Entry := ⟨37, [(true, .C (.I .i64) (.S (.C (.I .i64) (.C (.I .i64) (.I .i64)))))], .data true [(false, .I .i64)], ref05_Right, 1⟩
def ref05_Canon_A : AnnK := []
noncomputable def ref05_Canon_G : KG := ⟨TT, EQS, [ref05_Combine_E], []⟩
noncomputable def ref05_Canon : vals [(true, .C (.I .i64) (.S (.C (.I .i64) (.C (.I .i64) (.I .i64)))))] → Option (OutK.val (.data true [(true, .C (.I .i64) (.S (.C (.I .i64) (.C (.I .i64) (.I .i64)))))])) := funK ref05_Canon_G ref05_Canon_A fi38 38 0 [(true, .C (.I .i64) (.S (.C (.I .i64) (.C (.I .i64) (.I .i64)))))] (.data true [(true, .C (.I .i64) (.S (.C (.I .i64) (.C (.I .i64) (.I .i64)))))])
noncomputable def ref05_Canon_E : Entry := ⟨38, [(true, .C (.I .i64) (.S (.C (.I .i64) (.C (.I .i64) (.I .i64)))))], .data true [(true, .C (.I .i64) (.S (.C (.I .i64) (.C (.I .i64) (.I .i64)))))], ref05_Canon, 4⟩
def law07_CsrGraph_A : AnnK := [(5, ⟨[⟨false, 10, 0, [1, 3, 5], ⟨[(6, false, [.d true (.I .i64)])], [], []⟩, [(.exit 0, ⟨[], [], []⟩), (.ret, ⟨[(2, false, [.d true .B])], [], []⟩)]⟩], []⟩)]
noncomputable def law07_CsrGraph_G : KG := ⟨TT, EQS, [FL17_E, csr_Get_E, csr_Right_E, csr_Count_E, csr_Same_E, csr_Graph_E, ref05_Right_E, ref05_Canon_E], []⟩
noncomputable def law07_CsrGraph : vals [(true, .C (.I .i64) (.S (.C (.I .i64) (.C (.I .i64) (.I .i64)))))] → Option (OutK.val (.data true [(false, .B)])) := funK law07_CsrGraph_G law07_CsrGraph_A fi5 5 0 [(true, .C (.I .i64) (.S (.C (.I .i64) (.C (.I .i64) (.I .i64)))))] (.data true [(false, .B)])
noncomputable def law07_CsrGraph_E : Entry := ⟨5, [(true, .C (.I .i64) (.S (.C (.I .i64) (.C (.I .i64) (.I .i64)))))], .data true [(false, .B)], law07_CsrGraph, 17⟩
end K
end Ev
end Go.Proofs.Ytlkcneneagifoaa
end
section
namespace Go.Proofs.Ytlkcneneagifoaa
namespace Ev
namespace K
open Go Go.RowKit
set_option linter.unusedVariables false
set_option linter.unusedSimpArgs false
set_option maxRecDepth 100000
set_option maxHeartbeats 1000000
theorem edges_vertex_Gok : GOk edges_vertex_G E1 0 := gok E1_ok TT_ok EQS_ok trivial trivial
theorem edges_vertex_ok : EntryOk E1 edges_vertex_E := mkE_ok edges_vertex_Gok (by kernel_rfl) fn108 (by kernel_rfl) rfl
theorem edges_Right_Gok : GOk edges_Right_G E1 1 := gok E1_ok TT_ok EQS_ok ⟨⟨by decide, edges_vertex_ok⟩, trivial⟩ ⟨⟨fn106, rfl⟩, ⟨⟨fn107, rfl⟩, ⟨⟨fn109, rfl⟩, ⟨⟨fn127, rfl⟩, trivial⟩⟩⟩⟩
theorem edges_Right_ok : EntryOk E1 edges_Right_E := mkE_ok edges_Right_Gok (by kernel_rfl) fn80 (by kernel_rfl) rfl
theorem edges_Canon_Gok : GOk edges_Canon_G E1 1 := gok E1_ok TT_ok EQS_ok ⟨⟨by decide, edges_Combine_ok⟩, trivial⟩ trivial
theorem edges_Canon_ok : EntryOk E1 edges_Canon_E := mkE_ok edges_Canon_Gok (by kernel_rfl) fn61 (by kernel_rfl) rfl
theorem csr_Graph_Gok : GOk csr_Graph_G E1 15 := gok E1_ok TT_ok EQS_ok ⟨⟨by decide, csr_Turn_ok⟩, ⟨⟨by decide, edges_Canon_ok⟩, ⟨⟨by decide, csr_build_ok⟩, ⟨⟨by decide, edges_Right_ok⟩, trivial⟩⟩⟩⟩ trivial
theorem csr_Graph_ok : EntryOk E1 csr_Graph_E := mkE_ok csr_Graph_Gok (by kernel_rfl) fn36 (by kernel_rfl) rfl
theorem ref05_Right_Gok : GOk ref05_Right_G E1 0 := gok E1_ok TT_ok EQS_ok trivial trivial
theorem ref05_Right_ok : EntryOk E1 ref05_Right_E := mkE_ok ref05_Right_Gok (by kernel_rfl) fn37 (by kernel_rfl) rfl
theorem ref05_Canon_Gok : GOk ref05_Canon_G E1 3 := gok E1_ok TT_ok EQS_ok ⟨⟨by decide, ref05_Combine_ok⟩, trivial⟩ trivial
theorem ref05_Canon_ok : EntryOk E1 ref05_Canon_E := mkE_ok ref05_Canon_Gok (by kernel_rfl) fn38 (by kernel_rfl) rfl
theorem law07_CsrGraph_Gok : GOk law07_CsrGraph_G E1 16 := gok E1_ok TT_ok EQS_ok ⟨⟨by decide, FL17_ok⟩, ⟨⟨by decide, csr_Get_ok⟩, ⟨⟨by decide, csr_Right_ok⟩, ⟨⟨by decide, csr_Count_ok⟩, ⟨⟨by decide, csr_Same_ok⟩, ⟨⟨by decide, csr_Graph_ok⟩, ⟨⟨by decide, ref05_Right_ok⟩, ⟨⟨by decide, ref05_Canon_ok⟩, trivial⟩⟩⟩⟩⟩⟩⟩⟩ trivial
theorem law07_CsrGraph_ok : EntryOk E1 law07_CsrGraph_E := mkE_ok law07_CsrGraph_Gok (by kernel_rfl) fn5 (by kernel_rfl) rfl
end K
end Ev
end Go.Proofs.Ytlkcneneagifoaa
end
section
namespace Go.Proofs.Ytlkcneneagifoaa
namespace Ev
open Go
set_option linter.unusedVariables false
set_option linter.unusedSimpArgs false
theorem at_mo {α : Type} {w : Nat} {l : List α} {j : Nat} {x : α} (h : l[j]? = some x) : atS w (mo w l) (j : Int) = some x := by
 have hj : j < (mo w l).l.length := by rw [mo_l]; exact (List.getElem?_eq_some_iff.1 h).1
 rw [at_get (ok_mo l) hj]
 have : (mo w l).l[j]? = some x := by rw [mo_l]; exact h
 rw [List.getElem?_eq_getElem hj] at this
 exact this
end Ev
end Go.Proofs.Ytlkcneneagifoaa
end
section
namespace Go.Proofs.Ytlkcneneagifoaa
namespace Ev
open Go Go.RowKit
noncomputable def edges_Combine (x : Int) (y : Sl (Int × Int × Int)) : Option ((Sl (Int × Int × Int)) × Int) := K.edges_Combine (x, y)
noncomputable def edges_vertex (x : Int) (y : Int) : Option (Bool) := K.edges_vertex (x, y)
noncomputable def edges_Right (x : Int × (Sl (Int × Int × Int))) : Option (Int) := K.edges_Right x
noncomputable def edges_Canon (x : Int × (Sl (Int × Int × Int))) : Option (Int × (Sl (Int × Int × Int))) := K.edges_Canon x
noncomputable def csr_Graph (x : Int × (Sl (Int × Int × Int))) : Option ((Int × Int × Sl (Int) × Sl (Int) × Sl (Int)) × Int) := K.csr_Graph x
noncomputable def ref05_Right (x : Int × (Sl (Int × Int × Int))) : Option (Int) := K.ref05_Right x
noncomputable def ref05_Canon (x : Int × (Sl (Int × Int × Int))) : Option (Int × (Sl (Int × Int × Int))) := K.ref05_Canon x
noncomputable def law07_CsrGraph (x : Int × (Sl (Int × Int × Int))) : Option (Bool) := K.law07_CsrGraph x
end Ev
end Go.Proofs.Ytlkcneneagifoaa
end
section
namespace Go.Proofs.Ytlkcneneagifoaa
namespace Ev
open Go Go.RowKit
set_option linter.unusedVariables false
set_option maxRecDepth 100000
set_option maxHeartbeats 1000000
theorem edges_vertex_eq (x : Int) (y : Int) : edges_vertex x y =
 if y ≥ 0 then some (decide (y < x)) else some false := by kernel_rfl
noncomputable def edges_Right_b1 (x : Int × Sl (Int × Int × Int)) : Int → Option (Int ⊕ PUnit ⊕ Int ⊕ Empty) :=
 fun (x_1 : Int) =>
 if x_1 < (↑x.snd.l.length : Int) then
  (atS 3 x.snd x_1).bind fun (y : Int × Int × Int) =>
   (edges_vertex x.fst y.fst).bind fun (out : Bool) =>
    if ¬out = true then some (Sum.inr (Sum.inr (Sum.inl x_1)))
    else
     (edges_vertex x.fst y.snd.fst).bind fun (out : Bool) =>
      if ¬out = true then some (Sum.inr (Sum.inr (Sum.inl x_1))) else some (Sum.inl (IntKind.i64.wrap (x_1 + 1)))
 else some (Sum.inr (Sum.inl ()))
noncomputable def edges_Right_b2 (x : Int × Sl (Int × Int × Int)) : Int → Option (Int ⊕ PUnit ⊕ Int ⊕ Empty) :=
 fun (x_1 : Int) =>
 if x_1 < (↑x.snd.l.length : Int) then
  (atS 3 x.snd x_1).bind fun (y : Int × Int × Int) =>
   if y.snd.snd < 0 then some (Sum.inr (Sum.inr (Sum.inl x_1)))
   else
    if y.snd.snd > 2147483647 then some (Sum.inr (Sum.inr (Sum.inl x_1)))
    else some (Sum.inl (IntKind.i64.wrap (x_1 + 1)))
 else some (Sum.inr (Sum.inl ()))
noncomputable def edges_Right_b3 (x : Int × Sl (Int × Int × Int)) : Int → Option (Int ⊕ PUnit ⊕ Int ⊕ Empty) :=
 fun (x_1 : Int) =>
 if x_1 < (↑x.snd.l.length : Int) then
  (atS 3 x.snd x_1).bind fun (y : Int × Int × Int) =>
   if y.snd.snd < 0 then some (Sum.inr (Sum.inr (Sum.inl x_1)))
   else
    if y.snd.snd > 2147483647 then some (Sum.inr (Sum.inr (Sum.inl x_1)))
    else some (Sum.inl (IntKind.i64.wrap (x_1 + 1)))
 else some (Sum.inr (Sum.inl ()))
theorem edges_Right_eq (x : Int × Sl (Int × Int × Int)) : edges_Right x =
 if x.fst < 0 then some 3
else
 if x.fst > 4096 then some 5
 else
  if (↑x.snd.l.length : Int) > 65536 then some 5
  else
   (loopO (edges_Right_b1 x) 0).bind fun (y : PUnit ⊕ Int ⊕ Empty) =>
    Sum.elim
     (fun (val : PUnit) =>
      (loopO (edges_Right_b2 x) 0).bind fun (y : PUnit ⊕ Int ⊕ Empty) =>
       Sum.elim (fun (val : PUnit) => some 0)
        (fun (val : Int ⊕ Empty) =>
         Sum.elim (fun (val : Int) => if val ≥ 0 then some 7 else some 0) (fun (val : Empty) => nE val) val)
        y)
     (fun (val : Int ⊕ Empty) =>
      Sum.elim
       (fun (val : Int) =>
        if val ≥ 0 then some 3
        else
         (loopO (edges_Right_b3 x) 0).bind fun (y : PUnit ⊕ Int ⊕ Empty) =>
          Sum.elim (fun (val : PUnit) => some 0)
           (fun (val : Int ⊕ Empty) =>
            Sum.elim (fun (val : Int) => if val ≥ 0 then some 7 else some 0) (fun (val : Empty) => nE val)
             val)
           y)
       (fun (val : Empty) => nE val) val)
     y := by kernel_rfl
theorem edges_Canon_eq (x : Int × Sl (Int × Int × Int)) : edges_Canon x =
 (edges_Combine 1 x.snd).bind fun (out : Sl (Int × Int × Int) × Int) => some (x.fst, out.fst) := by kernel_rfl
noncomputable def csr_Graph_b1 (out : Int ×
 Sl
  (Int ×
   Int ×
    Int)) : List (Int × Int × Int) × Int → Option (List (Int × Int × Int) × Int ⊕ List (Int × Int × Int) ⊕ Empty) :=
 fun (x : List (Int × Int × Int) × Int) =>
 if x.snd < (↑out.snd.l.length : Int) then
  (atS 3 out.snd x.snd).bind fun (y : Int × Int × Int) =>
   (app x.fst [y]).bind fun (lm : List (Int × Int × Int)) => some (Sum.inl (lm, IntKind.i64.wrap (x.snd + 1)))
 else some (Sum.inr (Sum.inl x.fst))
theorem csr_Graph_eq (x : Int × Sl (Int × Int × Int)) : csr_Graph x =
 (edges_Right x).bind fun (out : Int) =>
 if out ≠ 0 then
  some
   ((0, 0, { nn := false, sz := 0, l := [] }, { nn := false, sz := 0, l := [] }, { nn := false, sz := 0, l := [] }),
    out)
 else
  (capOk 0 (↑x.snd.l.length : Int)).bind fun (x_1 : PUnit) =>
   (lenOk 0).bind fun (x_2 : PUnit) =>
    (edges_Canon x).bind fun (out : Int × Sl (Int × Int × Int)) =>
     (loopO (csr_Graph_b1 out) (List.replicate (Int.toNat 0) (0, 0, 0), 0)).bind
      fun (y : List (Int × Int × Int) ⊕ Empty) =>
      Sum.elim
       (fun (val : List (Int × Int × Int)) =>
        (csr_build x.fst x.fst { nn := true, sz := 3, l := val }).bind
         fun (out : Int × Int × Sl Int × Sl Int × Sl Int) =>
         (csr_Turn out).bind fun (out : Int × Int × Sl Int × Sl Int × Sl Int) => some (out, 0))
       (fun (val : Empty) => nE val) y := by kernel_rfl
noncomputable def ref05_Right_b1 (x : Int × Sl (Int × Int × Int)) : Int → Option (Int ⊕ PUnit ⊕ Int ⊕ Empty) :=
 fun (x_1 : Int) =>
 if x_1 < (↑x.snd.l.length : Int) then
  (atS 3 x.snd x_1).bind fun (y : Int × Int × Int) =>
   if y.fst < 0 then some (Sum.inr (Sum.inr (Sum.inl 3)))
   else
    if y.fst ≥ x.fst then some (Sum.inr (Sum.inr (Sum.inl 3)))
    else
     if y.snd.fst < 0 then some (Sum.inr (Sum.inr (Sum.inl 3)))
     else
      if y.snd.fst ≥ x.fst then some (Sum.inr (Sum.inr (Sum.inl 3)))
      else some (Sum.inl (IntKind.i64.wrap (x_1 + 1)))
 else some (Sum.inr (Sum.inl ()))
noncomputable def ref05_Right_b2 (x : Int × Sl (Int × Int × Int)) : Int → Option (Int ⊕ PUnit ⊕ Int ⊕ Empty) :=
 fun (x_1 : Int) =>
 if x_1 < (↑x.snd.l.length : Int) then
  (atS 3 x.snd x_1).bind fun (y : Int × Int × Int) =>
   if y.snd.snd < 0 then some (Sum.inr (Sum.inr (Sum.inl 7)))
   else
    (atS 3 x.snd x_1).bind fun (y : Int × Int × Int) =>
     if y.snd.snd > 2147483647 then some (Sum.inr (Sum.inr (Sum.inl 7)))
     else some (Sum.inl (IntKind.i64.wrap (x_1 + 1)))
 else some (Sum.inr (Sum.inl ()))
theorem ref05_Right_eq (x : Int × Sl (Int × Int × Int)) : ref05_Right x =
 if x.fst < 0 then some 3
else
 if x.fst > 4096 then some 5
 else
  if (↑x.snd.l.length : Int) > 65536 then some 5
  else
   (loopO (ref05_Right_b1 x) 0).bind fun (y : PUnit ⊕ Int ⊕ Empty) =>
    Sum.elim
     (fun (val : PUnit) =>
      (loopO (ref05_Right_b2 x) 0).bind fun (y : PUnit ⊕ Int ⊕ Empty) =>
       Sum.elim (fun (val : PUnit) => some 0)
        (fun (val : Int ⊕ Empty) => Sum.elim (fun (val : Int) => some val) (fun (val : Empty) => nE val) val) y)
     (fun (val : Int ⊕ Empty) => Sum.elim (fun (val : Int) => some val) (fun (val : Empty) => nE val) val)
     y := by kernel_rfl
theorem ref05_Canon_eq (x : Int × Sl (Int × Int × Int)) : ref05_Canon x =
 (ref05_Combine 1 x.snd).bind fun (out : Sl (Int × Int × Int) × Int) => some (x.fst, out.fst) := by kernel_rfl
noncomputable def law07_CsrGraph_b1 (out : (Int × Int × Sl Int × Sl Int × Sl Int) ×
 Int) (out'2 : Int × Sl (Int × Int × Int)) : Int → Option (Int ⊕ PUnit ⊕ Bool ⊕ Empty) :=
 fun (x : Int) =>
 if x < (↑out'2.snd.l.length : Int) then
  (atS 3 out'2.snd x).bind fun (y : Int × Int × Int) =>
   (atS 3 out'2.snd x).bind fun (y_1 : Int × Int × Int) =>
    (csr_Get out.fst y.snd.fst y_1.fst).bind fun (out : Int × Bool) =>
     if ¬out.snd = true then some (Sum.inr (Sum.inr (Sum.inl false)))
     else
      (atS 3 out'2.snd x).bind fun (y : Int × Int × Int) =>
       if out.fst ≠ y.snd.snd then some (Sum.inr (Sum.inr (Sum.inl false)))
       else some (Sum.inl (IntKind.i64.wrap (x + 1)))
 else some (Sum.inr (Sum.inl ()))
noncomputable def law07_CsrGraph_b2 (out : (Int × Int × Sl Int × Sl Int × Sl Int) ×
 Int) (out'2 : Int × Sl (Int × Int × Int)) : Int → Option (Int ⊕ PUnit ⊕ Bool ⊕ Empty) :=
 fun (x : Int) =>
 if x < (↑out'2.snd.l.length : Int) then
  (atS 3 out'2.snd x).bind fun (y : Int × Int × Int) =>
   (atS 3 out'2.snd x).bind fun (y_1 : Int × Int × Int) =>
    (csr_Get out.fst y.snd.fst y_1.fst).bind fun (out : Int × Bool) =>
     if ¬out.snd = true then some (Sum.inr (Sum.inr (Sum.inl false)))
     else
      (atS 3 out'2.snd x).bind fun (y : Int × Int × Int) =>
       if out.fst ≠ y.snd.snd then some (Sum.inr (Sum.inr (Sum.inl false)))
       else some (Sum.inl (IntKind.i64.wrap (x + 1)))
 else some (Sum.inr (Sum.inl ()))
noncomputable def law07_CsrGraph_b3 (out : (Int × Int × Sl Int × Sl Int × Sl Int) ×
 Int) (out'2 : Int × Sl (Int × Int × Int)) : Int → Option (Int ⊕ PUnit ⊕ Bool ⊕ Empty) :=
 fun (x : Int) =>
 if x < (↑out'2.snd.l.length : Int) then
  (atS 3 out'2.snd x).bind fun (y : Int × Int × Int) =>
   (atS 3 out'2.snd x).bind fun (y_1 : Int × Int × Int) =>
    (csr_Get out.fst y.snd.fst y_1.fst).bind fun (out : Int × Bool) =>
     if ¬out.snd = true then some (Sum.inr (Sum.inr (Sum.inl false)))
     else
      (atS 3 out'2.snd x).bind fun (y : Int × Int × Int) =>
       if out.fst ≠ y.snd.snd then some (Sum.inr (Sum.inr (Sum.inl false)))
       else some (Sum.inl (IntKind.i64.wrap (x + 1)))
 else some (Sum.inr (Sum.inl ()))
noncomputable def law07_CsrGraph_b4 (out : (Int × Int × Sl Int × Sl Int × Sl Int) ×
 Int) (out'2 : Int × Sl (Int × Int × Int)) : Int → Option (Int ⊕ PUnit ⊕ Bool ⊕ Empty) :=
 fun (x : Int) =>
 if x < (↑out'2.snd.l.length : Int) then
  (atS 3 out'2.snd x).bind fun (y : Int × Int × Int) =>
   (atS 3 out'2.snd x).bind fun (y_1 : Int × Int × Int) =>
    (csr_Get out.fst y.snd.fst y_1.fst).bind fun (out : Int × Bool) =>
     if ¬out.snd = true then some (Sum.inr (Sum.inr (Sum.inl false)))
     else
      (atS 3 out'2.snd x).bind fun (y : Int × Int × Int) =>
       if out.fst ≠ y.snd.snd then some (Sum.inr (Sum.inr (Sum.inl false)))
       else some (Sum.inl (IntKind.i64.wrap (x + 1)))
 else some (Sum.inr (Sum.inl ()))
theorem law07_CsrGraph_eq (x : Int × Sl (Int × Int × Int)) : law07_CsrGraph x =
 if (↑x.snd.l.length : Int) > 60 then
 if (↑x.snd.l.length : Int) ≤ 65536 then FL17.bind fun (out : Bool) => some (decide (out = true))
 else
  if x.fst > 200 then
   if x.fst ≤ 4096 then FL17.bind fun (out : Bool) => some (decide (out = true))
   else
    (csr_Graph x).bind fun (out : (Int × Int × Sl Int × Sl Int × Sl Int) × Int) =>
     (ref05_Right x).bind fun (out_1 : Int) =>
      if out.snd ≠ out_1 then some false
      else
       if out.snd ≠ 0 then
        FL17.bind fun (out_2 : Bool) =>
         if out_2 = true then
          (csr_Same out.fst
             (0, 0, { nn := false, sz := 0, l := [] }, { nn := false, sz := 0, l := [] },
              { nn := false, sz := 0, l := [] })).bind
           fun (out : Bool) => some (decide (out = true))
         else some false
       else
        (ref05_Canon x).bind fun (out_2 : Int × Sl (Int × Int × Int)) =>
         (loopO (law07_CsrGraph_b1 out out_2) 0).bind fun (y : PUnit ⊕ Bool ⊕ Empty) =>
          Sum.elim
           (fun (val : PUnit) =>
            FL17.bind fun (out_3 : Bool) =>
             if out_3 = true then
              (csr_Right out.fst).bind fun (out_4 : Bool) =>
               if out_4 = true then
                if out.fst.fst = x.fst then
                 if out.fst.snd.fst = x.fst then
                  (csr_Count out.fst).bind fun (out : Int) =>
                   some (decide (out = (↑out_2.snd.l.length : Int)))
                 else some false
                else some false
               else some false
             else some false)
           (fun (val : Bool ⊕ Empty) =>
            Sum.elim (fun (val : Bool) => some val) (fun (val : Empty) => nE val) val)
           y
  else
   (csr_Graph x).bind fun (out : (Int × Int × Sl Int × Sl Int × Sl Int) × Int) =>
    (ref05_Right x).bind fun (out_1 : Int) =>
     if out.snd ≠ out_1 then some false
     else
      if out.snd ≠ 0 then
       FL17.bind fun (out_2 : Bool) =>
        if out_2 = true then
         (csr_Same out.fst
            (0, 0, { nn := false, sz := 0, l := [] }, { nn := false, sz := 0, l := [] },
             { nn := false, sz := 0, l := [] })).bind
          fun (out : Bool) => some (decide (out = true))
        else some false
      else
       (ref05_Canon x).bind fun (out_2 : Int × Sl (Int × Int × Int)) =>
        (loopO (law07_CsrGraph_b2 out out_2) 0).bind fun (y : PUnit ⊕ Bool ⊕ Empty) =>
         Sum.elim
          (fun (val : PUnit) =>
           FL17.bind fun (out_3 : Bool) =>
            if out_3 = true then
             (csr_Right out.fst).bind fun (out_4 : Bool) =>
              if out_4 = true then
               if out.fst.fst = x.fst then
                if out.fst.snd.fst = x.fst then
                 (csr_Count out.fst).bind fun (out : Int) =>
                  some (decide (out = (↑out_2.snd.l.length : Int)))
                else some false
               else some false
              else some false
            else some false)
          (fun (val : Bool ⊕ Empty) =>
           Sum.elim (fun (val : Bool) => some val) (fun (val : Empty) => nE val) val)
          y
else
 if x.fst > 200 then
  if x.fst ≤ 4096 then FL17.bind fun (out : Bool) => some (decide (out = true))
  else
   (csr_Graph x).bind fun (out : (Int × Int × Sl Int × Sl Int × Sl Int) × Int) =>
    (ref05_Right x).bind fun (out_1 : Int) =>
     if out.snd ≠ out_1 then some false
     else
      if out.snd ≠ 0 then
       FL17.bind fun (out_2 : Bool) =>
        if out_2 = true then
         (csr_Same out.fst
            (0, 0, { nn := false, sz := 0, l := [] }, { nn := false, sz := 0, l := [] },
             { nn := false, sz := 0, l := [] })).bind
          fun (out : Bool) => some (decide (out = true))
        else some false
      else
       (ref05_Canon x).bind fun (out_2 : Int × Sl (Int × Int × Int)) =>
        (loopO (law07_CsrGraph_b3 out out_2) 0).bind fun (y : PUnit ⊕ Bool ⊕ Empty) =>
         Sum.elim
          (fun (val : PUnit) =>
           FL17.bind fun (out_3 : Bool) =>
            if out_3 = true then
             (csr_Right out.fst).bind fun (out_4 : Bool) =>
              if out_4 = true then
               if out.fst.fst = x.fst then
                if out.fst.snd.fst = x.fst then
                 (csr_Count out.fst).bind fun (out : Int) =>
                  some (decide (out = (↑out_2.snd.l.length : Int)))
                else some false
               else some false
              else some false
            else some false)
          (fun (val : Bool ⊕ Empty) =>
           Sum.elim (fun (val : Bool) => some val) (fun (val : Empty) => nE val) val)
          y
 else
  (csr_Graph x).bind fun (out : (Int × Int × Sl Int × Sl Int × Sl Int) × Int) =>
   (ref05_Right x).bind fun (out_1 : Int) =>
    if out.snd ≠ out_1 then some false
    else
     if out.snd ≠ 0 then
      FL17.bind fun (out_2 : Bool) =>
       if out_2 = true then
        (csr_Same out.fst
           (0, 0, { nn := false, sz := 0, l := [] }, { nn := false, sz := 0, l := [] },
            { nn := false, sz := 0, l := [] })).bind
         fun (out : Bool) => some (decide (out = true))
       else some false
     else
      (ref05_Canon x).bind fun (out_2 : Int × Sl (Int × Int × Int)) =>
       (loopO (law07_CsrGraph_b4 out out_2) 0).bind fun (y : PUnit ⊕ Bool ⊕ Empty) =>
        Sum.elim
         (fun (val : PUnit) =>
          FL17.bind fun (out_3 : Bool) =>
           if out_3 = true then
            (csr_Right out.fst).bind fun (out_4 : Bool) =>
             if out_4 = true then
              if out.fst.fst = x.fst then
               if out.fst.snd.fst = x.fst then
                (csr_Count out.fst).bind fun (out : Int) =>
                 some (decide (out = (↑out_2.snd.l.length : Int)))
               else some false
              else some false
             else some false
           else some false)
         (fun (val : Bool ⊕ Empty) =>
          Sum.elim (fun (val : Bool) => some val) (fun (val : Empty) => nE val) val)
         y := by kernel_rfl
end Ev
end Go.Proofs.Ytlkcneneagifoaa
end
section
namespace Go.Proofs.Ytlkcneneagifoaa
namespace Ev
open Go Sm
set_option linter.unusedVariables false
set_option linter.unusedSimpArgs false
theorem edges_Combine_w {r : Int} {x : Sl E3} (hr : isRing r = true) (hs : okS 3 x) (hn : x.nn = false → x.l = []) (hl : x.l.length ≤ 65536) (hw : w64 x.l) : ∃ s : Sl E3, edges_Combine r x = some (s, (sumR (RG r) x.l).2) ∧ okS 3 s ∧ (s.nn = false → s.l = []) ∧ s.l = (sumR (RG r) x.l).1 := by
 have h1 : edges_Combine r x = Eg.fn (r, x) := rfl
 rw [h1]
 unfold Eg.fn
 rw [if_pos hr, if_pos (okB_of hs hn hl hw).2]
 by_cases hr : risL x.l = true
 ·simp only [if_pos hr]
  rw [sum_rising (risL_iff.1 hr) fun e he => (hw e he).2.2]
  exact ⟨_, rfl, .inr rfl, hn, rfl⟩
 ·simp only [if_neg hr]
  have hR : Eg.RG r = RG r := rfl
  rw [hR]
  by_cases h0 : (sumR (RG r) x.l).2 = 0
  ·rw [if_pos h0, h0]
   exact ⟨_, rfl, .inr rfl, (by simp), rfl⟩
  ·rw [if_neg h0]
   have he := (sum_spec (r := r) (l := x.l)).2.2.2.resolve_left h0
   rw [he]
   exact ⟨_, rfl, .inl rfl, fun _ => rfl, rfl⟩
end Ev
end Go.Proofs.Ytlkcneneagifoaa
end
section
namespace Go.Proofs.Ytlkcneneagifoaa
namespace Ev
open Go Sm
set_option linter.unusedVariables false
set_option linter.unusedSimpArgs false
theorem size_ex {n : Int} (h : inK .u8 n) : ∃ k, law07_Size n = some k ∧ 0 ≤ k ∧ k < 40 := ⟨_, law07_Size_w h⟩
theorem some_ex {a : Int × Int} (ha : inK .u8 a.1 ∧ inK .u8 a.2) {s : Sl E3} (hs : okS 3 s) (hv : w64 s.l) : ∃ m n c l, law07_Some a s = some m ∧ Is m n c l :=
 let ⟨m, l, h1, h2⟩ := some_mat ha hs hv
 ⟨m, _, _, l, h1, h2⟩
theorem rem_ex {k n : Int} (h : 0 ≤ k) (hn : 0 ≤ n) : ∃ u, modO k (n + 1) = some u ∧ 0 ≤ u ∧ u ≤ n := by
 refine ⟨k % (n + 1), ?_, Int.emod_nonneg _ (by omega), ?_⟩
 ·unfold modO; rw [if_pos (by omega), Int.tmod_eq_emod_of_nonneg h]
 ·have := Int.emod_lt_of_pos k (show 0 < n + 1 by omega); omega
theorem law07_CsrCuts_true (a : Int × Int) (x : Sl E3) (z : Int × Int × Int × Int) (h0 : K.W (.C (.I .u8) (.I .u8)) a) (h1 : K.W (.S (.C (.I .i64) (.C (.I .i64) (.I .i64)))) x) (h2 : K.W (.C (.I .u8) (.C (.I .u8) (.C (.I .u8) (.I .u8)))) z) : law07_CsrCuts a x z = some true := by
 obtain ⟨hs, hnn, hw⟩ := w64_of h1
 obtain ⟨m, n, c, l, e1, hm⟩ := some_ex h0 hs hw
 have bn := hm.hn
 have bc := hm.hc
 obtain ⟨k, q1, q2, q3⟩ := size_ex h2.1
 obtain ⟨k2, r1, r2, r3⟩ := size_ex h2.2.1
 obtain ⟨i, s1, s2, s3⟩ := size_ex h2.2.2.1
 obtain ⟨j, t1, t2, t3⟩ := size_ex h2.2.2.2
 obtain ⟨u, u1, u2⟩ := rem_ex q2 bn.1
 obtain ⟨v, v1, v2⟩ := rem_ex r2 bc.1
 have x1 : IntKind.i64.wrap (n + 1) = n + 1 := wrap64 (by omega) (by omega)
 have x2 : IntKind.i64.wrap (c + 1) = c + 1 := wrap64 (by omega) (by omega)
 have x3 : IntKind.i64.wrap (u + i) = u + i := wrap64 (by omega) (by omega)
 have x4 : IntKind.i64.wrap (v + j) = v + j := wrap64 (by omega) (by omega)
 have w1 : csr_within (u, n) n = some (u, n) := by rw [within_w (y := (u, n)) (by dsimp only; omega)]; dsimp only; rw [show max u 0 = u by omega, show min n n = n by omega]
 have w2 : csr_within (v, c) c = some (v, c) := by rw [within_w (y := (v, c)) (by dsimp only; omega)]; dsimp only; rw [show max v 0 = v by omega, show min c c = c by omega]
 obtain ⟨m3, e3, hm3⟩ := csr_Cut_is hm w1 (by omega) w2 (by omega)
 obtain ⟨g, g1, g2⟩ := csr_Get_is hm3 i j
 obtain ⟨g', g3, g4⟩ := csr_Get_is hm (u + i) (v + j)
 have hg := (got_cut hm ⟨by omega, by omega⟩ g2).uniq hm.r g4
 have w3 : csr_within (0, i) (n - u) = some (0, min i (n - u)) := by rw [within_w (y := (0, i)) (by dsimp only; omega)]; dsimp only; rw [show max (0 : Int) 0 = 0 by omega]
 have w4 : csr_within (0, j) (c - v) = some (0, min j (c - v)) := by rw [within_w (y := (0, j)) (by dsimp only; omega)]; dsimp only; rw [show max (0 : Int) 0 = 0 by omega]
 have w5 : csr_within (u, u + i) n = some (u, min (u + i) n) := by rw [within_w (y := (u, u + i)) (by dsimp only; omega)]; dsimp only; rw [show max u 0 = u by omega]
 have w6 : csr_within (v, v + j) c = some (v, min (v + j) c) := by rw [within_w (y := (v, v + j)) (by dsimp only; omega)]; dsimp only; rw [show max v 0 = v by omega]
 obtain ⟨m8, e8, hm8⟩ := csr_Cut_is hm3 w3 (by omega) w4 (by omega)
 obtain ⟨m9, e9, hm9⟩ := csr_Cut_is hm w5 (by omega) w6 (by omega)
 have hlive : FL17 = some true := rfl
 have hsame : cutE 0 (min i (n - u)) 0 (min j (c - v)) (cutE u n v c l) = cutE u (min (u + i) n) v (min (v + j) c) l := by
  refine rises_ext (cut_rises (cut_rises hm.r)) (cut_rises hm.r) fun y => ?_
  rw [cutE_mem, cutE_mem, cutE_mem]
  simp only [Int.add_zero]
  constructor
  ·rintro ⟨⟨a1, a2, a3⟩, a4, a5⟩
   exact ⟨a1, by omega, by omega⟩
  ·rintro ⟨a1, a2, a3⟩
   exact ⟨⟨a1, by omega, by omega⟩, by omega, by omega⟩
 rw [hsame, show min i (n - u) - 0 = min (u + i) n - u by omega, show min j (c - v) - 0 = min (v + j) c - v by omega] at hm8
 rw [law07_CsrCuts_eq, e1, Option.bind_some, hm.e1, hm.e2, x1, x2, q1, Option.bind_some, u1, Option.bind_some, r1, Option.bind_some, v1, Option.bind_some, e3, Option.bind_some, s1, Option.bind_some, t1, Option.bind_some, x3, x4, g1, Option.bind_some, g3, Option.bind_some, e8, Option.bind_some, hlive, Option.bind_some, if_pos rfl, csr_Right_is hm3, Option.bind_some, if_pos rfl, hg, if_pos rfl, if_pos rfl, e9, Option.bind_some, csr_Same_is hm8 hm9, Option.bind_some]
 exact congrArg some (decide_eq_true rfl)
end Ev
end Go.Proofs.Ytlkcneneagifoaa
end
section
namespace Go.Proofs.Ytlkcneneagifoaa
namespace Ev
open Go Sm
set_option linter.unusedVariables false
set_option linter.unusedSimpArgs false
abbrev Gr := Int × Sl E3
theorem bad_loop {l : List E3} (p : E3 → Bool) (v : Nat → Int) {b : Int → Option (Int ⊕ PUnit ⊕ Int ⊕ Empty)} (h1 : ∀ j : Nat, (h : j < l.length) → b j = some (if p l[j] = true then .inl ((j + 1 : Nat) : Int) else .inr (.inr (.inl (v j))))) (h2 : b (l.length : Nat) = some (.inr (.inl ()))) :
  (l.all p = true ∧ loopO b 0 = some (.inl ())) ∨ (l.all p = false ∧ ∃ j, loopO b 0 = some (.inr (.inl (v j)))) := by
 obtain ⟨q, q1, q2⟩ := loop_up (b := b) l.length (fun j a => a = (j : Int) ∧ (l.take j).all p = true) (fun q => (l.all p = true ∧ q = .inl ()) ∨ (l.all p = false ∧ ∃ j, q = .inr (.inl (v j))))
  (by
   rintro j _ hj ⟨rfl, g⟩
   rw [h1 j hj]
   by_cases hp : p l[j] = true
   ·refine .inl ⟨_, by rw [if_pos hp], rfl, ?_⟩
    rw [List.take_succ_eq_append_getElem hj, List.all_append, g]
    simp [hp]
   ·refine .inr ⟨_, by rw [if_neg hp], .inr ⟨all_f hj (by simpa using hp), j, rfl⟩⟩)
  (by
   rintro _ ⟨rfl, g⟩
   rw [List.take_length] at g
   exact ⟨_, h2, .inl ⟨g, rfl⟩⟩) 0 (Nat.zero_le _) 0 ⟨rfl, rfl⟩
 rw [q1]
 rcases q2 with ⟨a, rfl⟩ | ⟨a, j, rfl⟩
 ·exact .inl ⟨a, rfl⟩
 ·exact .inr ⟨a, j, rfl⟩
def wOk (x : E3) : Bool := decide (0 ≤ x.2.2 ∧ x.2.2 ≤ 2147483647)
def wrongG (g : Gr) : Int := if g.1 < 0 then 3 else if g.1 > 4096 then 5 else if g.2.l.length > 65536 then 5 else if g.2.l.all (inM g.1 g.1) = true then if g.2.l.all wOk = true then 0 else 7 else 3
theorem vertex_w (x y : Int) : edges_vertex x y = some (decide (0 ≤ y ∧ y < x)) := by
 rw [edges_vertex_eq]
 by_cases h : y ≥ 0
 ·rw [if_pos h]
  by_cases h2 : y < x
  ·rw [decide_eq_true h2, decide_eq_true ⟨h, h2⟩]
  ·rw [decide_eq_false h2, decide_eq_false fun hh => h2 hh.2]
 ·rw [if_neg h, decide_eq_false fun hh => h hh.1]
section
variable {g : Gr}
theorem ends_step (hs : okS 3 g.2) (hl : g.2.l.length ≤ 65536) (j : Nat) (hj : j < g.2.l.length) : edges_Right_b1 g (j : Int) = some (if inM g.1 g.1 g.2.l[j] = true then .inl ((j + 1 : Nat) : Int) else .inr (.inr (.inl (j : Int)))) := by
 have e := at_get hs hj
 simp only [edges_Right_b1, e, Option.bind_some, w_succ hj (by omega), vertex_w]
 rw [if_pos (by omega)]
 unfold inM
 simp only [decide_eq_true_eq]
 by_cases h1 : 0 ≤ g.2.l[j].1 ∧ g.2.l[j].1 < g.1
 ·rw [if_neg (fun h => h h1)]
  by_cases h2 : 0 ≤ g.2.l[j].2.1 ∧ g.2.l[j].2.1 < g.1
  ·rw [if_neg (fun h => h h2), if_pos ⟨h1.1, h1.2, h2.1, h2.2⟩]
  ·rw [if_pos h2, if_neg (fun h => h2 ⟨h.2.2.1, h.2.2.2⟩)]
 ·rw [if_pos h1, if_neg (fun h => h1 ⟨h.1, h.2.1⟩)]
theorem wt_step (hs : okS 3 g.2) (hl : g.2.l.length ≤ 65536) (j : Nat) (hj : j < g.2.l.length) : edges_Right_b2 g (j : Int) = some (if wOk g.2.l[j] = true then .inl ((j + 1 : Nat) : Int) else .inr (.inr (.inl (j : Int)))) := by
 have e := at_get hs hj
 simp only [edges_Right_b2, e, Option.bind_some, w_succ hj (by omega)]
 rw [if_pos (by omega)]
 unfold wOk
 simp only [decide_eq_true_eq]
 by_cases h1 : g.2.l[j].2.2 < 0
 ·rw [if_pos h1, if_neg (by omega)]
 ·by_cases h2 : g.2.l[j].2.2 > 2147483647
  ·rw [if_neg h1, if_pos h2, if_neg (by omega)]
  ·rw [if_neg h1, if_neg h2, if_pos (by omega)]
theorem ends_ref (hs : okS 3 g.2) (hl : g.2.l.length ≤ 65536) (j : Nat) (hj : j < g.2.l.length) : ref05_Right_b1 g (j : Int) = some (if inM g.1 g.1 g.2.l[j] = true then .inl ((j + 1 : Nat) : Int) else .inr (.inr (.inl 3))) := by
 have e := at_get hs hj
 simp only [ref05_Right_b1, e, Option.bind_some, w_succ hj (by omega)]
 rw [if_pos (by omega)]
 unfold inM
 simp only [decide_eq_true_eq]
 by_cases h1 : g.2.l[j].1 < 0
 ·rw [if_pos h1, if_neg (by omega)]
 by_cases h2 : g.2.l[j].1 ≥ g.1
 ·rw [if_neg h1, if_pos h2, if_neg (by omega)]
 by_cases h3 : g.2.l[j].2.1 < 0
 ·rw [if_neg h1, if_neg h2, if_pos h3, if_neg (by omega)]
 by_cases h4 : g.2.l[j].2.1 ≥ g.1
 ·rw [if_neg h1, if_neg h2, if_neg h3, if_pos h4, if_neg (by omega)]
 ·rw [if_neg h1, if_neg h2, if_neg h3, if_neg h4, if_pos (by omega)]
theorem wt_ref (hs : okS 3 g.2) (hl : g.2.l.length ≤ 65536) (j : Nat) (hj : j < g.2.l.length) : ref05_Right_b2 g (j : Int) = some (if wOk g.2.l[j] = true then .inl ((j + 1 : Nat) : Int) else .inr (.inr (.inl 7))) := by
 have e := at_get hs hj
 simp only [ref05_Right_b2, e, Option.bind_some, w_succ hj (by omega)]
 rw [if_pos (by omega)]
 unfold wOk
 simp only [decide_eq_true_eq]
 by_cases h1 : g.2.l[j].2.2 < 0
 ·rw [if_pos h1, if_neg (by omega)]
 ·by_cases h2 : g.2.l[j].2.2 > 2147483647
  ·rw [if_neg h1, if_pos h2, if_neg (by omega)]
  ·rw [if_neg h1, if_neg h2, if_pos (by omega)]
theorem edges_Right_w (hs : okS 3 g.2) : edges_Right g = some (wrongG g) := by
 rw [edges_Right_eq]
 unfold wrongG
 by_cases h1 : g.1 < 0
 ·rw [if_pos h1, if_pos h1]
 by_cases h2 : g.1 > 4096
 ·rw [if_neg h1, if_pos h2, if_neg h1, if_pos h2]
 by_cases h3 : g.2.l.length > 65536
 ·rw [if_neg h1, if_neg h2, if_pos (by omega), if_neg h1, if_neg h2, if_pos h3]
 rw [if_neg h1, if_neg h2, if_neg (by omega), if_neg h1, if_neg h2, if_neg h3]
 rcases bad_loop (l := g.2.l) (inM g.1 g.1) (fun j => (j : Int)) (ends_step hs (by omega)) (by simp only [edges_Right_b1]; rw [if_neg (by omega)]) with ⟨a, q⟩ | ⟨a, j, q⟩
 ·rw [q, if_pos a]
  simp only [Option.bind_some, Sum.elim_inl]
  rcases bad_loop (l := g.2.l) wOk (fun j => (j : Int)) (wt_step hs (by omega)) (by simp only [edges_Right_b2]; rw [if_neg (by omega)]) with ⟨a, q⟩ | ⟨a, j, q⟩
  ·rw [q, if_pos a]; rfl
  ·rw [q, if_neg (by rw [a]; simp)]
   simp only [Option.bind_some, Sum.elim_inl, Sum.elim_inr]
   rw [if_pos (by omega)]
 ·rw [q, if_neg (by rw [a]; simp)]
  simp only [Option.bind_some, Sum.elim_inl, Sum.elim_inr]
  rw [if_pos (by omega)]
theorem ref05_Right_w (hs : okS 3 g.2) : ref05_Right g = some (wrongG g) := by
 rw [ref05_Right_eq]
 unfold wrongG
 by_cases h1 : g.1 < 0
 ·rw [if_pos h1, if_pos h1]
 by_cases h2 : g.1 > 4096
 ·rw [if_neg h1, if_pos h2, if_neg h1, if_pos h2]
 by_cases h3 : g.2.l.length > 65536
 ·rw [if_neg h1, if_neg h2, if_pos (by omega), if_neg h1, if_neg h2, if_pos h3]
 rw [if_neg h1, if_neg h2, if_neg (by omega), if_neg h1, if_neg h2, if_neg h3]
 rcases bad_loop (l := g.2.l) (inM g.1 g.1) (fun _ => 3) (ends_ref hs (by omega)) (by simp only [ref05_Right_b1]; rw [if_neg (by omega)]) with ⟨a, q⟩ | ⟨a, j, q⟩
 ·rw [q, if_pos a]
  simp only [Option.bind_some, Sum.elim_inl]
  rcases bad_loop (l := g.2.l) wOk (fun _ => 7) (wt_ref hs (by omega)) (by simp only [ref05_Right_b2]; rw [if_neg (by omega)]) with ⟨a, q⟩ | ⟨a, j, q⟩
  ·rw [q, if_pos a]; rfl
  ·rw [q, if_neg (by rw [a]; simp)]; rfl
 ·rw [q, if_neg (by rw [a]; simp)]; rfl
def canG (g : Gr) : List E3 := (sumR (RG 1) g.2.l).1
theorem wrong_none (h : wrongG g = 0) : (0 ≤ g.1 ∧ g.1 ≤ 4096) ∧ g.2.l.length ≤ 65536 ∧ g.2.l.all (inM g.1 g.1) = true := by
 unfold wrongG at h
 by_cases h1 : g.1 < 0
 ·rw [if_pos h1] at h; omega
 by_cases h2 : g.1 > 4096
 ·rw [if_neg h1, if_pos h2] at h; omega
 by_cases h3 : g.2.l.length > 65536
 ·rw [if_neg h1, if_neg h2, if_pos h3] at h; omega
 by_cases h4 : g.2.l.all (inM g.1 g.1) = true
 ·exact ⟨by omega, by omega, h4⟩
 ·rw [if_neg h1, if_neg h2, if_neg h3, if_neg h4] at h; omega
theorem graph_loop {s : Gr} {l : List E3} (hs : okS 3 s.2) (e : s.2.l = l) (hl : l.length ≤ 65536) : loopO (csr_Graph_b1 s) (List.replicate (Int.toNat 0) (0, 0, 0), 0) = some (.inl l) := by
 subst e
 refine loop_stop s.2.l.length (fun j => (s.2.l.take j, ((j : Nat) : Int))) rfl (fun j hj => ?_) ?_
 ·have e := at_get hs hj
  simp only [csr_Graph_b1, e, Option.bind_some, w_succ hj (by omega)]
  rw [if_pos (by omega), app_ok (by simp [bound]; omega), List.take_succ_eq_append_getElem hj]
  rfl
 ·simp only [csr_Graph_b1]
  rw [if_neg (by omega), List.take_length]
theorem csr_Graph_w (hs : okS 3 g.2) (hn : g.2.nn = false → g.2.l = []) (hw : w64 g.2.l) (h : wrongG g = 0) : ∃ m, csr_Graph g = some (m, 0) ∧ Is m g.1 g.1 (turnL (canG g)) := by
 obtain ⟨h1, h2, h3⟩ := wrong_none h
 obtain ⟨s, e1, e2, e3, e4⟩ := edges_Combine_w (r := 1) (by decide) hs hn h2 hw
 obtain ⟨s1, s2, s3, s4⟩ := sum_spec (r := 1) (l := g.2.l)
 have hl : (canG g).length ≤ 65536 := by unfold canG; omega
 have hm : Is (matV g.1 g.1 (canG g)) g.1 g.1 (canG g) := is_mat h1 h1 hl s1 (rows_in h3) fun x hx => (s3 x hx).1
 obtain ⟨m, t1, t2⟩ := csr_Turn_is hm
 rw [csr_Graph_eq, edges_Right_w hs, h]
 simp only [Option.bind_some, ne_eq, not_true_eq_false, if_false]
 rw [show capOk 0 (g.2.l.length : Int) = some () by unfold capOk; split <;> first | rfl | (rw [if_pos ⟨by omega, by unfold bound; omega⟩])]
 rw [show lenOk 0 = some () from len_ok (n := 0) (by omega), edges_Canon_eq, e1]
 simp only [Option.bind_some]
 rw [graph_loop (s := (g.1, s)) (l := canG g) e2 (by first | exact e4 | exact e3) hl]
 simp only [Option.bind_some, Sum.elim_inl]
 rw [csr_build_w (s := ⟨true, 3, canG g⟩) h1 (.inr rfl) hl (fun x hx => (hm.p x hx).1)]
 simp only [Option.bind_some]
 rw [t1]
 exact ⟨m, rfl, t2⟩
theorem csr_Graph_bad (hs : okS 3 g.2) (h : wrongG g ≠ 0) : csr_Graph g = some (nilM, wrongG g) := by
 rw [csr_Graph_eq, edges_Right_w hs]
 simp only [Option.bind_some]
 rw [if_pos h]; rfl
theorem csr_sure_nil : ∃ m, csr_sure nilM = some m ∧ Is m 0 0 [] := by
 have ok : OkM nilM := ⟨ok_nil, ok_nil, ok_nil, by simp [nilM, nilS], by simp [nilM, nilS], by simp [nilM, nilS], by simp [nilM, nilS]⟩
 have hr : rightM nilM = false := by decide
 rw [csr_sure_eq, csr_Right_w ok, hr]
 simp only [Option.bind_some, Bool.false_eq_true, if_false]
 rw [show (⟨false, 0, []⟩ : Sl E3) = nilS from rfl, csr_build_w (by omega) ok_nil (by simp [nilS]) (by simp [nilS])]
 exact ⟨matV 0 0 [], rfl, is_mat (l := []) (by omega) (by omega) (by simp) List.Pairwise.nil (by simp) (by simp)⟩
theorem csr_Same_nil : csr_Same nilM nilM = some true := by
 obtain ⟨m, e, h⟩ := csr_sure_nil
 have a := h.mok
 rw [csr_Same_eq, e]
 simp only [Option.bind_some]
 rw [slices_Equal_ints a.ls a.s a.s, slices_Equal_ints a.lc a.c a.c, slices_Equal_vals a.lv a.v a.v]
 simp
theorem ref05_Canon_w (hs : okS 3 g.2) (h : g.2.l.length ≤ 65536) : ref05_Canon g = some (g.1, mo 3 (canG g)) := by
 rw [ref05_Canon_eq, ref05_Combine_w hs h (by decide)]
 rfl
end
end Ev
end Go.Proofs.Ytlkcneneagifoaa
end
section
namespace Go.Proofs.Ytlkcneneagifoaa
namespace Ev
open Go Sm
set_option linter.unusedVariables false
set_option linter.unusedSimpArgs false
theorem each_edge {m : Mx} {n c : Int} {l : List E3} (hm : Is m n c (turnL l)) (hl : l.length ≤ 65536) (g : Gr) : loopO (law07_CsrGraph_b1 (m, 0) (g.1, mo 3 l)) 0 = some (.inl ()) := by
 refine loop_stop l.length (fun j => ((j : Nat) : Int)) rfl (fun j hj => ?_) ?_
 ·have e : atS 3 (mo 3 l) (j : Int) = some l[j] := at_mo (List.getElem?_eq_getElem hj)
  obtain ⟨q, q1, q2⟩ := csr_Get_is hm l[j].2.1 l[j].1
  have hq : q = (l[j].2.2, true) := by
   refine q2.uniq hm.r (.inl ⟨flip3 l[j], turn_mem.2 ?_, rfl, rfl, rfl⟩)
   rw [flip_flip]
   exact List.getElem_mem hj
  subst hq
  simp only [law07_CsrGraph_b1]
  rw [if_pos (by rw [mo_l]; omega), e, Option.bind_some, Option.bind_some, q1, Option.bind_some, if_neg (by simp), Option.bind_some, if_neg (by simp), w_succ hj (by omega)]
 ·simp only [law07_CsrGraph_b1]
  rw [if_neg (by rw [mo_l]; omega)]
theorem graph_tail {g : Gr} (hs : okS 3 g.2) (hn : g.2.nn = false → g.2.l = []) (hw : w64 g.2.l) {b : Mx × Int → Gr → Int → Option (Int ⊕ PUnit ⊕ Bool ⊕ Empty)} (hb : b = law07_CsrGraph_b1) :
  ((csr_Graph g).bind fun out => (ref05_Right g).bind fun out_1 =>
   if out.snd ≠ out_1 then some false
   else if out.snd ≠ 0 then FL17.bind fun out_2 =>
    if out_2 = true then (csr_Same out.fst (0, 0, { nn := false, sz := 0, l := [] }, { nn := false, sz := 0, l := [] }, { nn := false, sz := 0, l := [] })).bind fun out => some (decide (out = true)) else some false
   else (ref05_Canon g).bind fun out_2 => (loopO (b out out_2) 0).bind fun y => Sum.elim
    (fun _ => FL17.bind fun out_3 => if out_3 = true then (csr_Right out.fst).bind fun out_4 =>
     if out_4 = true then if out.fst.fst = g.fst then if out.fst.snd.fst = g.fst then (csr_Count out.fst).bind fun out => some (decide (out = (out_2.snd.l.length : Int))) else some false else some false else some false else some false)
    (fun val => Sum.elim (fun val => some val) (fun val => nE val) val) y) = some true := by
 subst hb
 have hlive : FL17 = some true := rfl
 by_cases h : wrongG g = 0
 ·obtain ⟨h1, h2, h3⟩ := wrong_none h
  obtain ⟨m, e1, hm⟩ := csr_Graph_w hs hn hw h
  have hl : (canG g).length ≤ 65536 := by have := hm.len; rwa [turn_len] at this
  rw [e1, Option.bind_some, ref05_Right_w hs, Option.bind_some, if_neg (by simp [h]), if_neg (by simp), ref05_Canon_w hs h2, Option.bind_some, each_edge hm hl g, Option.bind_some]
  simp only [Sum.elim_inl]
  rw [hlive, Option.bind_some, if_pos rfl, csr_Right_is hm, Option.bind_some, if_pos rfl, if_pos hm.e1, if_pos hm.e2, csr_Count_is hm, Option.bind_some, turn_len, mo_l]
  exact congrArg some (decide_eq_true rfl)
 ·rw [csr_Graph_bad hs h, Option.bind_some, ref05_Right_w hs, Option.bind_some, if_neg (by simp), if_pos h, hlive, Option.bind_some, if_pos rfl]
  rw [show csr_Same nilM (0, 0, { nn := false, sz := 0, l := [] }, { nn := false, sz := 0, l := [] }, { nn := false, sz := 0, l := [] }) = some true from csr_Same_nil, Option.bind_some]
  exact congrArg some (decide_eq_true rfl)
theorem law07_CsrGraph_true (g : Gr) (h : K.W (.C (.I .i64) (.S (.C (.I .i64) (.C (.I .i64) (.I .i64))))) g) : law07_CsrGraph g = some true := by
 obtain ⟨hs, hn, hw⟩ := w64_of h.2
 have hlive : FL17 = some true := rfl
 have hd : some (decide (true = true)) = some true := congrArg some (decide_eq_true rfl)
 rw [law07_CsrGraph_eq]
 by_cases c1 : (g.2.l.length : Int) > 60
 ·rw [if_pos c1]
  by_cases c2 : (g.2.l.length : Int) ≤ 65536
  ·rw [if_pos c2, hlive, Option.bind_some, hd]
  ·rw [if_neg c2]
   by_cases c3 : g.1 > 200
   ·rw [if_pos c3]
    by_cases c4 : g.1 ≤ 4096
    ·rw [if_pos c4, hlive, Option.bind_some, hd]
    ·rw [if_neg c4]; exact graph_tail hs hn hw rfl
   ·rw [if_neg c3]; exact graph_tail hs hn hw rfl
 ·rw [if_neg c1]
  by_cases c3 : g.1 > 200
  ·rw [if_pos c3]
   by_cases c4 : g.1 ≤ 4096
   ·rw [if_pos c4, hlive, Option.bind_some, hd]
   ·rw [if_neg c4]; exact graph_tail hs hn hw rfl
  ·rw [if_neg c3]; exact graph_tail hs hn hw rfl
end Ev
end Go.Proofs.Ytlkcneneagifoaa
end
