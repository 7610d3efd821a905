/- Texts of a claim, joined. -/
import Derived.Test.YtnikcjnkcjondaaDoorZT11
import Derived.Test.YtnikcjnkcjondaaDoorZT6
import Derived.Test.YtnikcjnkcjondaaDoorZT8
import Derived.Test.YtnikcjnkcjondaaDoorZT7
import Derived.Test.YtnikcjnkcjondaaDoorZT9
import Derived.Test.YtnikcjnkcjondaaDoorZT10
set_option linter.unusedVariables false
set_option linter.unusedSimpArgs false
section
namespace Go.Proofs.YtnikcjnkcjondaaDoor
namespace Ev
open Go
set_option linter.unusedVariables false
set_option linter.unusedSimpArgs false
set_option maxRecDepth 100000
set_option maxHeartbeats 1000000
attribute [local irreducible] OpsL StL TnL WpL EndL
noncomputable def ref12_Holds (n1 : Int) (n2 : Int) (n3 : Int) : Option (Bool) :=
 (if n1 = 1 then (if n2 < n3 then some true else (if n1 = 2 then (if n2 > n3 then some true else (if n1 = 3 then (if n2 = n3 then some true else (if n1 = 4 then (if n2 ≠ n3 then some true else some false) else some false)) else (if n1 = 4 then (if n2 ≠ n3 then some true else some false) else some false))) else (if n1 = 3 then (if n2 = n3 then some true else (if n1 = 4 then (if n2 ≠ n3 then some true else some false) else some false)) else (if n1 = 4 then (if n2 ≠ n3 then some true else some false) else some false)))) else (if n1 = 2 then (if n2 > n3 then some true else (if n1 = 3 then (if n2 = n3 then some true else (if n1 = 4 then (if n2 ≠ n3 then some true else some false) else some false)) else (if n1 = 4 then (if n2 ≠ n3 then some true else some false) else some false))) else (if n1 = 3 then (if n2 = n3 then some true else (if n1 = 4 then (if n2 ≠ n3 then some true else some false) else some false)) else (if n1 = 4 then (if n2 ≠ n3 then some true else some false) else some false))))
theorem ref12_Holds_r (m : Nat) {n1 : Int} {n2 : Int} {n3 : Int} {out : Bool} (h : ref12_Holds n1 n2 n3 = some out) : RunsP E1 (m + 1) 33 [.one (iT .i64 n1), .one (iT .i64 n2), .one (iT .i64 n3)] (.fresh, [.one (bT out)]) := by
 refine fn_F rfl (by rw [E1_fn]; exact show fiOf Tryd.prog 33 = _ by unfold fiOf; rw [Tryd.func33]; unfold Tryd.f33; rfl) rfl ?_
 dsimp only
 unfold ref12_Holds at h
 refine lS (lO ?_)
 refine pq (qa bf) ?_
 refine oN ?_
 refine pq (qm (iO n1)) ?_
 by_cases c4 : n1 = 1
 replace h := ifT c4 h
 refine pq (qb (p_eql_tZ c4)) ?_
 refine pq (qm bt) ?_
 refine pq (qm (iO n2)) ?_
 refine pq (qm (iO n3)) ?_
 by_cases c5 : n2 < n3
 replace h := ifT c5 h
 refine pq (qb (p_lss_tZ c5)) ?_
 refine pq (qpt bt) ?_
 refine pq (qm bt) ?_
 iterate 7 refine os ?_
 refine pq (qpt bt) ?_
 refine pq (qm bt) ?_
 iterate 7 refine os ?_
 refine pq (qpt bt) ?_
 refine pq (qm bt) ?_
 iterate 7 refine os ?_
 refine pq (qpt bt) ?_
 refine pq (qa bt) ?_
 refine oE (eS (lR ?_))
 obtain rfl := sj h
 exact eF1
 replace h := ifF c5 h
 refine pq (qb (p_lss_fZ c5)) ?_
 refine pq (qpt bf) ?_
 refine pq (qm bf) ?_
 refine pq (qm (iO n1)) ?_
 by_cases c6 : n1 = 2
 replace h := ifT c6 h
 refine pq (qb (p_eql_tZ c6)) ?_
 refine pq (qm bt) ?_
 refine pq (qm (iO n2)) ?_
 refine pq (qm (iO n3)) ?_
 by_cases c7 : n2 > n3
 replace h := ifT c7 h
 refine pq (qb (p_gtr_tZ c7)) ?_
 refine pq (qpt bt) ?_
 refine pq (qpf bt) ?_
 refine pq (qm bt) ?_
 iterate 7 refine os ?_
 refine pq (qpt bt) ?_
 refine pq (qm bt) ?_
 iterate 7 refine os ?_
 refine pq (qpt bt) ?_
 refine pq (qa bt) ?_
 refine oE (eS (lR ?_))
 obtain rfl := sj h
 exact eF1
 replace h := ifF c7 h
 refine pq (qb (p_gtr_fZ c7)) ?_
 refine pq (qpt bf) ?_
 refine pq (qpf bf) ?_
 refine pq (qm bf) ?_
 refine pq (qm (iO n1)) ?_
 by_cases c8 : n1 = 3
 replace h := ifT c8 h
 refine pq (qb (p_eql_tZ c8)) ?_
 refine pq (qm bt) ?_
 refine pq (qm (iO n2)) ?_
 refine pq (qm (iO n3)) ?_
 by_cases c9 : n2 = n3
 replace h := ifT c9 h
 refine pq (qb (p_eql_tZ c9)) ?_
 refine pq (qpt bt) ?_
 refine pq (qpf bt) ?_
 refine pq (qm bt) ?_
 iterate 7 refine os ?_
 refine pq (qpt bt) ?_
 refine pq (qa bt) ?_
 refine oE (eS (lR ?_))
 obtain rfl := sj h
 exact eF1
 replace h := ifF c9 h
 refine pq (qb (p_eql_fZ c9)) ?_
 refine pq (qpt bf) ?_
 refine pq (qpf bf) ?_
 refine pq (qm bf) ?_
 refine pq (qm (iO n1)) ?_
 by_cases c10 : n1 = 4
 replace h := ifT c10 h
 refine pq (qb (p_eql_tZ c10)) ?_
 refine pq (qm bt) ?_
 refine pq (qm (iO n2)) ?_
 refine pq (qm (iO n3)) ?_
 by_cases c11 : n2 ≠ n3
 replace h := ifT c11 h
 refine pq (qb (p_neq_tZ c11)) ?_
 refine pq (qpt bt) ?_
 refine pq (qpf bt) ?_
 refine pq (qa bt) ?_
 refine oE (eS (lR ?_))
 obtain rfl := sj h
 exact eF1
 replace h := ifF c11 h
 refine pq (qb (p_neq_fZ c11)) ?_
 refine pq (qpt bf) ?_
 refine pq (qpf bf) ?_
 refine pq (qa bf) ?_
 refine oE (eS (lR ?_))
 obtain rfl := sj h
 exact eF1
 replace h := ifF c10 h
 refine pq (qb (p_eql_fZ c10)) ?_
 refine pq (qm bf) ?_
 iterate 3 refine os ?_
 refine pq (qpf bf) ?_
 refine pq (qpf bf) ?_
 refine pq (qa bf) ?_
 refine oE (eS (lR ?_))
 obtain rfl := sj h
 exact eF1
 replace h := ifF c8 h
 refine pq (qb (p_eql_fZ c8)) ?_
 refine pq (qm bf) ?_
 iterate 3 refine os ?_
 refine pq (qpf bf) ?_
 refine pq (qpf bf) ?_
 refine pq (qm bf) ?_
 refine pq (qm (iO n1)) ?_
 by_cases c12 : n1 = 4
 replace h := ifT c12 h
 refine pq (qb (p_eql_tZ c12)) ?_
 refine pq (qm bt) ?_
 refine pq (qm (iO n2)) ?_
 refine pq (qm (iO n3)) ?_
 by_cases c13 : n2 ≠ n3
 replace h := ifT c13 h
 refine pq (qb (p_neq_tZ c13)) ?_
 refine pq (qpt bt) ?_
 refine pq (qpf bt) ?_
 refine pq (qa bt) ?_
 refine oE (eS (lR ?_))
 obtain rfl := sj h
 exact eF1
 replace h := ifF c13 h
 refine pq (qb (p_neq_fZ c13)) ?_
 refine pq (qpt bf) ?_
 refine pq (qpf bf) ?_
 refine pq (qa bf) ?_
 refine oE (eS (lR ?_))
 obtain rfl := sj h
 exact eF1
 replace h := ifF c12 h
 refine pq (qb (p_eql_fZ c12)) ?_
 refine pq (qm bf) ?_
 iterate 3 refine os ?_
 refine pq (qpf bf) ?_
 refine pq (qpf bf) ?_
 refine pq (qa bf) ?_
 refine oE (eS (lR ?_))
 obtain rfl := sj h
 exact eF1
 replace h := ifF c6 h
 refine pq (qb (p_eql_fZ c6)) ?_
 refine pq (qm bf) ?_
 iterate 3 refine os ?_
 refine pq (qpf bf) ?_
 refine pq (qpf bf) ?_
 refine pq (qm bf) ?_
 refine pq (qm (iO n1)) ?_
 by_cases c14 : n1 = 3
 replace h := ifT c14 h
 refine pq (qb (p_eql_tZ c14)) ?_
 refine pq (qm bt) ?_
 refine pq (qm (iO n2)) ?_
 refine pq (qm (iO n3)) ?_
 by_cases c15 : n2 = n3
 replace h := ifT c15 h
 refine pq (qb (p_eql_tZ c15)) ?_
 refine pq (qpt bt) ?_
 refine pq (qpf bt) ?_
 refine pq (qm bt) ?_
 iterate 7 refine os ?_
 refine pq (qpt bt) ?_
 refine pq (qa bt) ?_
 refine oE (eS (lR ?_))
 obtain rfl := sj h
 exact eF1
 replace h := ifF c15 h
 refine pq (qb (p_eql_fZ c15)) ?_
 refine pq (qpt bf) ?_
 refine pq (qpf bf) ?_
 refine pq (qm bf) ?_
 refine pq (qm (iO n1)) ?_
 by_cases c16 : n1 = 4
 replace h := ifT c16 h
 refine pq (qb (p_eql_tZ c16)) ?_
 refine pq (qm bt) ?_
 refine pq (qm (iO n2)) ?_
 refine pq (qm (iO n3)) ?_
 by_cases c17 : n2 ≠ n3
 replace h := ifT c17 h
 refine pq (qb (p_neq_tZ c17)) ?_
 refine pq (qpt bt) ?_
 refine pq (qpf bt) ?_
 refine pq (qa bt) ?_
 refine oE (eS (lR ?_))
 obtain rfl := sj h
 exact eF1
 replace h := ifF c17 h
 refine pq (qb (p_neq_fZ c17)) ?_
 refine pq (qpt bf) ?_
 refine pq (qpf bf) ?_
 refine pq (qa bf) ?_
 refine oE (eS (lR ?_))
 obtain rfl := sj h
 exact eF1
 replace h := ifF c16 h
 refine pq (qb (p_eql_fZ c16)) ?_
 refine pq (qm bf) ?_
 iterate 3 refine os ?_
 refine pq (qpf bf) ?_
 refine pq (qpf bf) ?_
 refine pq (qa bf) ?_
 refine oE (eS (lR ?_))
 obtain rfl := sj h
 exact eF1
 replace h := ifF c14 h
 refine pq (qb (p_eql_fZ c14)) ?_
 refine pq (qm bf) ?_
 iterate 3 refine os ?_
 refine pq (qpf bf) ?_
 refine pq (qpf bf) ?_
 refine pq (qm bf) ?_
 refine pq (qm (iO n1)) ?_
 by_cases c18 : n1 = 4
 replace h := ifT c18 h
 refine pq (qb (p_eql_tZ c18)) ?_
 refine pq (qm bt) ?_
 refine pq (qm (iO n2)) ?_
 refine pq (qm (iO n3)) ?_
 by_cases c19 : n2 ≠ n3
 replace h := ifT c19 h
 refine pq (qb (p_neq_tZ c19)) ?_
 refine pq (qpt bt) ?_
 refine pq (qpf bt) ?_
 refine pq (qa bt) ?_
 refine oE (eS (lR ?_))
 obtain rfl := sj h
 exact eF1
 replace h := ifF c19 h
 refine pq (qb (p_neq_fZ c19)) ?_
 refine pq (qpt bf) ?_
 refine pq (qpf bf) ?_
 refine pq (qa bf) ?_
 refine oE (eS (lR ?_))
 obtain rfl := sj h
 exact eF1
 replace h := ifF c18 h
 refine pq (qb (p_eql_fZ c18)) ?_
 refine pq (qm bf) ?_
 iterate 3 refine os ?_
 refine pq (qpf bf) ?_
 refine pq (qpf bf) ?_
 refine pq (qa bf) ?_
 refine oE (eS (lR ?_))
 obtain rfl := sj h
 exact eF1
 replace h := ifF c4 h
 refine pq (qb (p_eql_fZ c4)) ?_
 refine pq (qm bf) ?_
 iterate 3 refine os ?_
 refine pq (qpf bf) ?_
 refine pq (qm bf) ?_
 refine pq (qm (iO n1)) ?_
 by_cases c20 : n1 = 2
 replace h := ifT c20 h
 refine pq (qb (p_eql_tZ c20)) ?_
 refine pq (qm bt) ?_
 refine pq (qm (iO n2)) ?_
 refine pq (qm (iO n3)) ?_
 by_cases c21 : n2 > n3
 replace h := ifT c21 h
 refine pq (qb (p_gtr_tZ c21)) ?_
 refine pq (qpt bt) ?_
 refine pq (qpf bt) ?_
 refine pq (qm bt) ?_
 iterate 7 refine os ?_
 refine pq (qpt bt) ?_
 refine pq (qm bt) ?_
 iterate 7 refine os ?_
 refine pq (qpt bt) ?_
 refine pq (qa bt) ?_
 refine oE (eS (lR ?_))
 obtain rfl := sj h
 exact eF1
 replace h := ifF c21 h
 refine pq (qb (p_gtr_fZ c21)) ?_
 refine pq (qpt bf) ?_
 refine pq (qpf bf) ?_
 refine pq (qm bf) ?_
 refine pq (qm (iO n1)) ?_
 by_cases c22 : n1 = 3
 replace h := ifT c22 h
 refine pq (qb (p_eql_tZ c22)) ?_
 refine pq (qm bt) ?_
 refine pq (qm (iO n2)) ?_
 refine pq (qm (iO n3)) ?_
 by_cases c23 : n2 = n3
 replace h := ifT c23 h
 refine pq (qb (p_eql_tZ c23)) ?_
 refine pq (qpt bt) ?_
 refine pq (qpf bt) ?_
 refine pq (qm bt) ?_
 iterate 7 refine os ?_
 refine pq (qpt bt) ?_
 refine pq (qa bt) ?_
 refine oE (eS (lR ?_))
 obtain rfl := sj h
 exact eF1
 replace h := ifF c23 h
 refine pq (qb (p_eql_fZ c23)) ?_
 refine pq (qpt bf) ?_
 refine pq (qpf bf) ?_
 refine pq (qm bf) ?_
 refine pq (qm (iO n1)) ?_
 by_cases c24 : n1 = 4
 replace h := ifT c24 h
 refine pq (qb (p_eql_tZ c24)) ?_
 refine pq (qm bt) ?_
 refine pq (qm (iO n2)) ?_
 refine pq (qm (iO n3)) ?_
 by_cases c25 : n2 ≠ n3
 replace h := ifT c25 h
 refine pq (qb (p_neq_tZ c25)) ?_
 refine pq (qpt bt) ?_
 refine pq (qpf bt) ?_
 refine pq (qa bt) ?_
 refine oE (eS (lR ?_))
 obtain rfl := sj h
 exact eF1
 replace h := ifF c25 h
 refine pq (qb (p_neq_fZ c25)) ?_
 refine pq (qpt bf) ?_
 refine pq (qpf bf) ?_
 refine pq (qa bf) ?_
 refine oE (eS (lR ?_))
 obtain rfl := sj h
 exact eF1
 replace h := ifF c24 h
 refine pq (qb (p_eql_fZ c24)) ?_
 refine pq (qm bf) ?_
 iterate 3 refine os ?_
 refine pq (qpf bf) ?_
 refine pq (qpf bf) ?_
 refine pq (qa bf) ?_
 refine oE (eS (lR ?_))
 obtain rfl := sj h
 exact eF1
 replace h := ifF c22 h
 refine pq (qb (p_eql_fZ c22)) ?_
 refine pq (qm bf) ?_
 iterate 3 refine os ?_
 refine pq (qpf bf) ?_
 refine pq (qpf bf) ?_
 refine pq (qm bf) ?_
 refine pq (qm (iO n1)) ?_
 by_cases c26 : n1 = 4
 replace h := ifT c26 h
 refine pq (qb (p_eql_tZ c26)) ?_
 refine pq (qm bt) ?_
 refine pq (qm (iO n2)) ?_
 refine pq (qm (iO n3)) ?_
 by_cases c27 : n2 ≠ n3
 replace h := ifT c27 h
 refine pq (qb (p_neq_tZ c27)) ?_
 refine pq (qpt bt) ?_
 refine pq (qpf bt) ?_
 refine pq (qa bt) ?_
 refine oE (eS (lR ?_))
 obtain rfl := sj h
 exact eF1
 replace h := ifF c27 h
 refine pq (qb (p_neq_fZ c27)) ?_
 refine pq (qpt bf) ?_
 refine pq (qpf bf) ?_
 refine pq (qa bf) ?_
 refine oE (eS (lR ?_))
 obtain rfl := sj h
 exact eF1
 replace h := ifF c26 h
 refine pq (qb (p_eql_fZ c26)) ?_
 refine pq (qm bf) ?_
 iterate 3 refine os ?_
 refine pq (qpf bf) ?_
 refine pq (qpf bf) ?_
 refine pq (qa bf) ?_
 refine oE (eS (lR ?_))
 obtain rfl := sj h
 exact eF1
 replace h := ifF c20 h
 refine pq (qb (p_eql_fZ c20)) ?_
 refine pq (qm bf) ?_
 iterate 3 refine os ?_
 refine pq (qpf bf) ?_
 refine pq (qpf bf) ?_
 refine pq (qm bf) ?_
 refine pq (qm (iO n1)) ?_
 by_cases c28 : n1 = 3
 replace h := ifT c28 h
 refine pq (qb (p_eql_tZ c28)) ?_
 refine pq (qm bt) ?_
 refine pq (qm (iO n2)) ?_
 refine pq (qm (iO n3)) ?_
 by_cases c29 : n2 = n3
 replace h := ifT c29 h
 refine pq (qb (p_eql_tZ c29)) ?_
 refine pq (qpt bt) ?_
 refine pq (qpf bt) ?_
 refine pq (qm bt) ?_
 iterate 7 refine os ?_
 refine pq (qpt bt) ?_
 refine pq (qa bt) ?_
 refine oE (eS (lR ?_))
 obtain rfl := sj h
 exact eF1
 replace h := ifF c29 h
 refine pq (qb (p_eql_fZ c29)) ?_
 refine pq (qpt bf) ?_
 refine pq (qpf bf) ?_
 refine pq (qm bf) ?_
 refine pq (qm (iO n1)) ?_
 by_cases c30 : n1 = 4
 replace h := ifT c30 h
 refine pq (qb (p_eql_tZ c30)) ?_
 refine pq (qm bt) ?_
 refine pq (qm (iO n2)) ?_
 refine pq (qm (iO n3)) ?_
 by_cases c31 : n2 ≠ n3
 replace h := ifT c31 h
 refine pq (qb (p_neq_tZ c31)) ?_
 refine pq (qpt bt) ?_
 refine pq (qpf bt) ?_
 refine pq (qa bt) ?_
 refine oE (eS (lR ?_))
 obtain rfl := sj h
 exact eF1
 replace h := ifF c31 h
 refine pq (qb (p_neq_fZ c31)) ?_
 refine pq (qpt bf) ?_
 refine pq (qpf bf) ?_
 refine pq (qa bf) ?_
 refine oE (eS (lR ?_))
 obtain rfl := sj h
 exact eF1
 replace h := ifF c30 h
 refine pq (qb (p_eql_fZ c30)) ?_
 refine pq (qm bf) ?_
 iterate 3 refine os ?_
 refine pq (qpf bf) ?_
 refine pq (qpf bf) ?_
 refine pq (qa bf) ?_
 refine oE (eS (lR ?_))
 obtain rfl := sj h
 exact eF1
 replace h := ifF c28 h
 refine pq (qb (p_eql_fZ c28)) ?_
 refine pq (qm bf) ?_
 iterate 3 refine os ?_
 refine pq (qpf bf) ?_
 refine pq (qpf bf) ?_
 refine pq (qm bf) ?_
 refine pq (qm (iO n1)) ?_
 by_cases c32 : n1 = 4
 replace h := ifT c32 h
 refine pq (qb (p_eql_tZ c32)) ?_
 refine pq (qm bt) ?_
 refine pq (qm (iO n2)) ?_
 refine pq (qm (iO n3)) ?_
 by_cases c33 : n2 ≠ n3
 replace h := ifT c33 h
 refine pq (qb (p_neq_tZ c33)) ?_
 refine pq (qpt bt) ?_
 refine pq (qpf bt) ?_
 refine pq (qa bt) ?_
 refine oE (eS (lR ?_))
 obtain rfl := sj h
 exact eF1
 replace h := ifF c33 h
 refine pq (qb (p_neq_fZ c33)) ?_
 refine pq (qpt bf) ?_
 refine pq (qpf bf) ?_
 refine pq (qa bf) ?_
 refine oE (eS (lR ?_))
 obtain rfl := sj h
 exact eF1
 replace h := ifF c32 h
 refine pq (qb (p_eql_fZ c32)) ?_
 refine pq (qm bf) ?_
 iterate 3 refine os ?_
 refine pq (qpf bf) ?_
 refine pq (qpf bf) ?_
 refine pq (qa bf) ?_
 refine oE (eS (lR ?_))
 obtain rfl := sj h
 exact eF1
noncomputable def ref12_Where_b1 (n3 : Int) (n4 : Int) (s9 : Sl (Int × Int)) (a : Int × (List (Int × Int))) : Option ((Int × (List (Int × Int))) ⊕ ((List (Int × Int)) ⊕ (Int × (Sl (Int × Int))))) :=
 match a with
 | (n51, l52) => (if n51 < ((s9.l.length : Nat) : Int) then ((atS 2 s9 n51).bind fun (n57, n58) => ((ref12_Holds n3 n58 n4).bind fun b60 => (if b60 = true then ((app l52 ([(n57, n58)] : List (Int × Int))).bind fun _ => some (.inl ((IntKind.i64.wrap (n51 + 1)), (l52 ++ ([(n57, n58)] : List (Int × Int)))))) else some (.inl ((IntKind.i64.wrap (n51 + 1)), l52))))) else some (.inr (.inl l52)))
noncomputable def ref12_Where (a0 : Int × (Sl (Int × Int))) (n3 : Int) (n4 : Int) : Option ((Int × (Sl (Int × Int)))) :=
 match a0 with
 | (n1, s2) => ((ref09_Sure (n1, s2)).bind fun (n8, s9) => ((loopO (ref12_Where_b1 n3 n4 s9) (0, ([] : List (Int × Int)))).bind (Sum.elim (fun l64 => some (n8, (mo 2 l64))) (fun u => some u))))
theorem ref12_Where_r (m : Nat) {a0 : Int × (Sl (Int × Int))} {n3 : Int} {n4 : Int} {out : (Int × (Sl (Int × Int)))} (h : ref12_Where a0 n3 n4 = some out) : RunsP E1 (m + 3) 12 [.agg (r35 a0), .one (iT .i64 n3), .one (iT .i64 n4)] (.fresh, [.agg (r35 out)]) := by
 obtain ⟨n1, s2⟩ := a0
 refine fn_F rfl (by rw [E1_fn]; exact show fiOf Tryd.prog 12 = _ by unfold fiOf; rw [Tryd.func12]; unfold Tryd.f12; rfl) rfl ?_
 dsimp only
 unfold ref12_Where at h
 refine lS (lO ?_)
 refine ol_new rfl rfl rfl (q_box ty36 rfl (cs := [iI n1, sF r57 s2]) rfl rfl) (fun k5 => ?_)
 refine ol_new rfl rfl rfl (q_alloc ty36 (row := [iI 0, nC]) rfl rfl) (fun k6 => ?_)
 refine oN ?_
 refine pq (ql (.agg [iI n1, sF r57 s2]) 1 sz36) ?_
 obtain ⟨⟨n8, s9⟩, h7, h⟩ := bindS h
 refine ol_putX rfl rfl rfl (q_callX (v := fun fr10 => .agg [iI n8, .p fr10 (Sl.t r57 s9)]) (args := [.agg [iI n1, sF r57 s2]]) (ref09_Sure_r (m + 0) h7) rfl rfl (vw_cons (vd_agg (vc_cons vc_v (vc_cons vc_s vc_nil))) vw_nil) rfl rfl (fun fr => rfl)) (fun fr10 => ?_)
 refine ow [[iI n8, .p fr10 (Sl.t r57 s9)]] 1 sz36 ?_
 refine oN ?_
 refine pq (q_fieldP rfl fa36_0 rfl) ?_
 refine pq (ql (iO n8) 1 sz3) ?_
 refine pq (q_build (cs := [iI n8, nC]) ty36 rfl pl36 rfl) ?_
 refine ol_new rfl rfl rfl (q_alloc ty36 (row := [iI 0, nC]) rfl rfl) (fun k11 => ?_)
 refine ow [[iI n8, nC]] 0 sz36 ?_
 refine oE (eS (lS (lS (lO ?_))))
 refine pq (qa (iO 0)) ?_
 refine oE (eS (lB ?_))
 refine L_addM (α := Int × Int) r57 2 ?_
 let S1 : (Int × (List (Int × Int))) → Nat → (Nat → D) → Nat → D := fun a kt g => ups g [(1, iO n3), (2, iO n4), (3, .one (.ptr k5 0 0)), (6, .one (.ptr k6 0 0)), (7, .one (.ptr k11 0 0)), (8, .one (iI a.1))]
 let SL1 : (Int × (List (Int × Int))) → Nat → BL := fun a kt => ([[(k5, 2, [[iI n8, .p fr10 (Sl.t r57 s9)]])], [(k6, 2, [[iI 0, nC]])], [(k11, 2, [[iI n8, moC a.2 kt]])], moL r57 2 a.2 kt] : BL)
 let G1 : (Int × (Sl (Int × Int))) → Ex → St → Prop := fun u => endQ E1 [.cell 6 36] (.fresh, [.agg (r35 u)])
 let Sx1 : (List (Int × Int)) → Nat → (Nat → D) → Nat → D := fun a kt g => ups g [(6, .one (.ptr k6 0 0)), (7, .one (.ptr k11 0 0))]
 let SLx1 : (List (Int × Int)) → Nat → BL := fun a kt => ([[(k6, 2, [[iI 0, nC]])], [(k11, 2, [[iI n8, moC a kt]])], moL r57 2 a kt] : BL)
 let J1 : ((List (Int × Int)) ⊕ (Int × (Sl (Int × Int)))) → Ex → St → Prop := JX 41 0 Sx1 SLx1 G1
 refine L_loopS (ref12_Where_b1 n3 n4 s9) S1 SL1 J1 JX_n (0, ([] : List (Int × Int))) h 1049 (ups_self ⟨rfl, rfl, rfl, rfl, rfl, rfl, trivial⟩) [3, 2, 1, 0] (by decide) rfl ?_ ?_
 rintro ⟨n51, l52⟩ k53 g out h
 change ref12_Where_b1 n3 n4 s9 (n51, l52) = some out at h
 unfold ref12_Where_b1 at h
 refine lS (lS (lO ?_))
 refine pq (qm (iO n51)) ?_
 refine pq (q_fieldP rfl fa36_1 rfl) ?_
 refine pq (ql (.one (.p fr10 (Sl.t r57 s9))) 0 sz25) ?_
 refine pq (q_lenS rfl ty25 rfl rfl rfl rfl) ?_
 by_cases c54 : n51 < ((s9.l.length : Nat) : Int)
 replace h := ifT c54 h
 refine pq (qb (p_lss_tZ c54)) ?_
 refine oE (eS (cT rfl (lK (eS (lS (lB (lS (lO ?_))))))))
 refine pq (qm (iO n3)) ?_
 refine pq (q_fieldP rfl fa36_1 rfl) ?_
 refine pq (ql (.one (.p fr10 (Sl.t r57 s9))) 0 sz25) ?_
 refine pq (qm (iO n51)) ?_
 obtain ⟨⟨n57, n58⟩, h56, h⟩ := bindS h
 obtain ⟨h56a, h56b, h56⟩ := atS_some h56
 refine pq (q_ixS rfl rfl h56a h56 (el25.trans (congrArg some h56b.symm))) ?_
 refine pq (q_fieldI rfl fa58_1 rfl) ?_
 refine pq (q_loadI (v := iO n58) rfl sz2 (map_get h56) rfl rfl) ?_
 refine pq (qm (iO n4)) ?_
 obtain ⟨b60, h59, h⟩ := bindS h
 refine pq (qc (bO b60) [iO n3, iO n58, iO n4] (ref12_Holds_r (m + 1) h59) (vw_cons (vd_one vc_v) (vw_cons (vd_one vc_v) (vw_cons (vd_one vc_v) vw_nil)))) ?_
 refine oE (eS ?_)
 rcases b60 with _ | _
 replace h := wF h
 refine cF rfl (lK (bN (eS (lO ?_))))
 refine pq (qm (iO n51)) ?_
 refine pq (qb p_addY) ?_
 refine pq (qa (iO (IntKind.i64.wrap (n51 + 1)))) ?_
 refine oE ?_
 obtain rfl := sj h
 exact E_next k53 (ups_self ⟨rfl, rfl, rfl, rfl, rfl, rfl, trivial⟩) [0, 1, 2, 3] (by decide) rfl
 replace h := wT h
 refine cT rfl ?_
 refine L_norm (L2 := ([[(k5, 2, [[iI n8, .p fr10 (Sl.t r57 s9)]])], [(k6, 2, [[iI 0, nC]])], [(k11, 2, [[iI n8, moC l52 k53]])], moL r57 2 l52 k53] : BL)) [0, 1, 2, 3] (by decide) rfl ?_
 refine L_turn 11 rfl [[], [], [], [], [], [], [], [], moK l52 k53, [], [k11]] [(false, []), (false, []), (false, []), (false, []), (false, []), (false, []), (false, []), (true, []), (true, []), (false, []), (false, [])] [[2, 3, 4, 5, 6, 7], [2, 3, 4, 5, 6, 7], [0, 1, 4], [0, 1, 4], [0, 1, 2, 3], [0, 1], [0, 1], [0, 1], [], [], []] (by kernel_rfl) (by kernel_rfl) (by kernel_rfl) ?_ (fun bb61 hlt hnd => ?_)
 intro bb61 hlt hnd
 have e_k5 : k5 < bb61 := key_lt hlt 0 rfl
 have e_k6 : k6 < bb61 := key_lt hlt 1 rfl
 have e_k11 : k11 < bb61 := key_lt hlt 2 rfl
 have e_k53 : l52 = [] ∨ k53 < bb61 := key_ltM (r := r57) (w := 2) hlt 3 rfl
 have f_k53 := moK_lt e_k53
 have d_k11_k5 : k11 ≠ k5 := key_ne hnd 2 0 rfl rfl rfl
 have d_k11_k6 : k11 ≠ k6 := key_ne hnd 2 1 rfl rfl rfl
 have d_k53_k5 : k5 ∉ moK l52 k53 := key_neM (r := r57) (w := 2) hnd 3 0 rfl rfl rfl
 have g_k53_k5 := moK_ne d_k53_k5
 have d_k53_k6 : k6 ∉ moK l52 k53 := key_neM (r := r57) (w := 2) hnd 3 1 rfl rfl rfl
 have g_k53_k6 := moK_ne d_k53_k6
 have d_k53_k11 : k11 ∉ moK l52 k53 := key_neM (r := r57) (w := 2) hnd 3 2 rfl rfl rfl
 have g_k53_k11 := moK_ne d_k53_k11
 exact ⟨(by first | (simp [DJ]; done) | (simp [DJ]; omega) | (simp [DJ]; assumption) | (simp_all [DJ]; done) | (simp_all [DJ]; omega)), (by first | (simp [DJ]; done) | (simp [DJ]; omega) | (simp [DJ]; assumption) | (simp_all [DJ]; done) | (simp_all [DJ]; omega))⟩
 have e_k5 : k5 < bb61 := key_lt hlt 0 rfl
 have e_k6 : k6 < bb61 := key_lt hlt 1 rfl
 have e_k11 : k11 < bb61 := key_lt hlt 2 rfl
 have e_k53 : l52 = [] ∨ k53 < bb61 := key_ltM (r := r57) (w := 2) hlt 3 rfl
 have f_k53 := moK_lt e_k53
 have d_k11_k5 : k11 ≠ k5 := key_ne hnd 2 0 rfl rfl rfl
 have d_k11_k6 : k11 ≠ k6 := key_ne hnd 2 1 rfl rfl rfl
 have d_k53_k5 : k5 ∉ moK l52 k53 := key_neM (r := r57) (w := 2) hnd 3 0 rfl rfl rfl
 have g_k53_k5 := moK_ne d_k53_k5
 have d_k53_k6 : k6 ∉ moK l52 k53 := key_neM (r := r57) (w := 2) hnd 3 1 rfl rfl rfl
 have g_k53_k6 := moK_ne d_k53_k6
 have d_k53_k11 : k11 ∉ moK l52 k53 := key_neM (r := r57) (w := 2) hnd 3 2 rfl rfl rfl
 have g_k53_k11 := moK_ne d_k53_k11
 refine tq [] rfl hmn (q_fieldP rfl fa36_1 rfl) ?_
 refine tq [2] rfl (hmc (nin_cons (ne_new (key_lt hlt 2 rfl)) nin_nil) hmn) (ql (.one (moC l52 k53)) 0 sz25) ?_
 refine tq [] rfl (hm0 rfl) (q_fieldP rfl fa36_1 rfl) ?_
 refine tq [0] rfl (hm0 rfl) (ql (.one (.p fr10 (Sl.t r57 s9))) 0 sz25) ?_
 refine tq [] rfl (hm0 rfl) (qm (iO n51)) ?_
 refine tq [] rfl (hm0 rfl) (q_ixS rfl rfl h56a h56 (el25.trans (congrArg some h56b.symm))) ?_
 refine tq [] rfl (hm0 rfl) (q_loadI (v := .agg [iI n57, iI n58]) rfl sz58 (map_get h56) rfl rfl) ?_
 refine tn_new rfl rfl rfl [] (by decide) rfl (hm0 rfl) rfl rfl (hkc (ne_new (key_lt hlt 0 rfl)) (hkc (ne_new (key_lt hlt 1 rfl)) (hkc (ne_new (key_lt hlt 2 rfl)) (hkM (e_k53.imp id fun h => by omega) hkn)))) (q_bslice (cs := [iI n57, iI n58]) (es := (([(n57, n58)] : List (Int × Int))).map (rowC r57)) ty25 rfl ty58 rfl rfl rfl rfl rfl) ?_
 obtain ⟨_, h63, h⟩ := bindS h
 obtain ⟨h63b, rfl⟩ := app_some h63
 refine tn_appM (r := r57) (l := l52) 0 4 rfl rfl rfl rfl [4, 0] (by decide) rfl (hm0 rfl) rfl rfl (hkc (ne_add rfl) (hkc (ne_new (key_lt hlt 0 rfl)) (hkc (ne_new (key_lt hlt 1 rfl)) (hkc (ne_new (key_lt hlt 2 rfl)) (hkM (e_k53.imp id fun h => by omega) hkn))))) rfl rfl (el_ownM (l := ([(n57, n58)] : List (Int × Int))) 1 rfl) rfl rfl h63 (fun y => rfl) el25 ty25 rfl rfl rfl rfl rfl ?_
 refine tq [] rfl (hm0 rfl) (q_fieldP rfl fa36_1 rfl) ?_
 refine tn_wr rfl rfl [4] (by decide) rfl (hm0 rfl) rfl (q_store (es' := [[iI n8, moC (l52 ++ ([(n57, n58)] : List (Int × Int))) (bb61 + 8)]]) 0 rfl rfl rfl sz25 rfl rfl rfl rfl rfl) (q := 4) rfl rfl ?_
 refine tn_end (bN (eS (lO ?_)))
 refine pq (qm (iO n51)) ?_
 refine pq (qb p_addY) ?_
 refine pq (qa (iO (IntKind.i64.wrap (n51 + 1)))) ?_
 refine oE ?_
 obtain rfl := sj h
 exact E_next (bb61 + 8) (ups_self ⟨rfl, rfl, rfl, rfl, rfl, rfl, trivial⟩) [2, 3, 4, 0] (by decide) rfl
 replace h := ifF c54 h
 refine pq (qb (p_lss_fZ c54)) ?_
 refine oE (eS (cF rfl (L_exit ?_)))
 refine E_seqX ?_
 obtain rfl := sj h
 refine E_out ?_
 exact (E_exit k53 (ups_self ⟨rfl, rfl, trivial⟩) [1, 2, 3] (by decide) rfl)
 rintro (l64 | u) h
 refine J_x (fun k65 g => ?_)
 replace h := elimL h
 refine bH (eS (lS (lO ?_)))
 refine pq (ql (.agg [iI n8, moC l64 k65]) 1 sz36) ?_
 refine ow [[iI n8, moC l64 k65]] 0 sz36 ?_
 refine oE (eS (lR ?_))
 obtain rfl := sj h
 exact E_endF (.inr rfl) (res_cell (d := .agg [iI n8, moC l64 k65]) 0 rfl sz36 rfl rfl rfl rfl res_nil) (vw_cons (vd_agg (vc_cons vc_v (vc_cons (vc_M (r := r57) 2 rfl (fun x h m => rfl)) vc_nil))) vw_nil) oG rfl rfl
 obtain rfl := Option.some.inj (elimR h)
 exact J_up (fun s hs => hs)
noncomputable def ref07_SameItems_b1 (s1 : Sl (Int × Int)) (s2 : Sl (Int × Int)) (n25 : Int) : Option (Int ⊕ (Unit ⊕ Bool)) :=
 (if n25 < ((s1.l.length : Nat) : Int) then ((atS 2 s1 n25).bind fun (n29, n30) => ((atS 2 s2 n25).bind fun (n33, n34) => (if n29 = n33 ∧ n30 = n34 then some (.inl (IntKind.i64.wrap (n25 + 1))) else some (.inr (.inr false))))) else some (.inr (.inl ())))
noncomputable def ref07_SameItems (s1 : Sl (Int × Int)) (s2 : Sl (Int × Int)) : Option (Bool) :=
 (if ((s1.l.length : Nat) : Int) ≠ ((s2.l.length : Nat) : Int) then some false else ((loopO (ref07_SameItems_b1 s1 s2) 0).bind (Sum.elim (fun _ => some true) (fun u => some u))))
theorem ref07_SameItems_r (m : Nat) {s1 : Sl (Int × Int)} {s2 : Sl (Int × Int)} {out : Bool} (h : ref07_SameItems s1 s2 = some out) : RunsP E1 (m + 1) 35 [.one (Sl.t r57 s1), .one (Sl.t r57 s2)] (.fresh, [.one (bT out)]) := by
 refine fn_F rfl (by rw [E1_fn]; exact show fiOf Tryd.prog 35 = _ by unfold fiOf; rw [Tryd.func35]; unfold Tryd.f35; rfl) rfl ?_
 dsimp only
 unfold ref07_SameItems at h
 refine lS (lO ?_)
 refine pq (qa bf) ?_
 refine oE (eS (lS (lS (lO ?_))))
 refine pq (qm (.one (sF r57 s1))) ?_
 refine pq (q_lenS rfl ty25 rfl rfl rfl rfl) ?_
 refine pq (qm (.one (sF r57 s2))) ?_
 refine pq (q_lenS rfl ty25 rfl rfl rfl rfl) ?_
 by_cases c3 : ((s1.l.length : Nat) : Int) ≠ ((s2.l.length : Nat) : Int)
 replace h := ifT c3 h
 refine pq (qb (p_neq_tZ c3)) ?_
 refine oE (eS (cT rfl (lS (lO ?_))))
 refine pq (qa bf) ?_
 refine oE (eS (lR (eR ?_)))
 obtain rfl := sj h
 exact eF1
 replace h := ifF c3 h
 refine pq (qb (p_neq_fZ c3)) ?_
 refine oE (eS (cF rfl (lK (eS (lS (lS (lO ?_)))))))
 refine pq (qa (iO 0)) ?_
 refine oE (eS (lB ?_))
 let S1 : Int → Unit → (Nat → D) → Nat → D := fun a kt g => ups g [(0, .one (sF r57 s1)), (1, .one (sF r57 s2)), (5, iO a)]
 let SL1 : Int → Unit → BL := fun a kt => ([] : BL)
 let G1 : Bool → Ex → St → Prop := fun u => endQ E1 [.tmp 4] (.fresh, [.one (bT u)])
 let Sx1 : Unit → Unit → (Nat → D) → Nat → D := fun a kt g => ups g []
 let SLx1 : Unit → Unit → BL := fun a kt => ([] : BL)
 let J1 : (Unit ⊕ Bool) → Ex → St → Prop := JX 26 0 Sx1 SLx1 G1
 refine L_loopS (ref07_SameItems_b1 s1 s2) S1 SL1 J1 JX_n 0 h () (ups_self ⟨rfl, rfl, rfl, trivial⟩) [] (by decide) rfl ?_ ?_
 rintro n25 _ g out h
 change ref07_SameItems_b1 s1 s2 n25 = some out at h
 unfold ref07_SameItems_b1 at h
 refine lS (lS (lO ?_))
 refine pq (qm (iO n25)) ?_
 refine pq (qm (.one (sF r57 s1))) ?_
 refine pq (q_lenS rfl ty25 rfl rfl rfl rfl) ?_
 by_cases c26 : n25 < ((s1.l.length : Nat) : Int)
 replace h := ifT c26 h
 refine pq (qb (p_lss_tZ c26)) ?_
 refine oE (eS (cT rfl (lK (eS (lS (lB (lS ?_)))))))
 refine L_still (by kernel_rfl) ?_
 refine sq (qm (.one (sF r57 s1))) ?_
 refine sq (qm (iO n25)) ?_
 obtain ⟨⟨n29, n30⟩, h28, h⟩ := bindS h
 obtain ⟨h28a, h28b, h28⟩ := atS_some h28
 refine sq (q_ixS rfl rfl h28a h28 (el25.trans (congrArg some h28b.symm))) ?_
 refine sq (q_loadI (v := .agg [iI n29, iI n30]) rfl sz58 (map_get h28) rfl rfl) ?_
 refine sq (qm (.one (sF r57 s2))) ?_
 refine sq (qm (iO n25)) ?_
 obtain ⟨⟨n33, n34⟩, h32, h⟩ := bindS h
 obtain ⟨h32a, h32b, h32⟩ := atS_some h32
 refine sq (q_ixS rfl rfl h32a h32 (el25.trans (congrArg some h32b.symm))) ?_
 refine sq (q_loadI (v := .agg [iI n33, iI n34]) rfl sz58 (map_get h32) rfl rfl) ?_
 by_cases c35 : n29 = n33 ∧ n30 = n34
 replace h := ifT c35 h
 refine sq (q_binA rfl rfl (by rfl) (by rfl) (eqneqA58_t _ _ c35) rfl) ?_
 refine st_end (eS (cF rfl (lK (bN (eS (lO ?_))))))
 refine pq (qm (iO n25)) ?_
 refine pq (qb p_addY) ?_
 refine pq (qa (iO (IntKind.i64.wrap (n25 + 1)))) ?_
 refine oE ?_
 obtain rfl := sj h
 exact E_next () (ups_self ⟨rfl, rfl, rfl, trivial⟩) [] (by decide) rfl
 replace h := ifF c35 h
 refine sq (q_binA rfl rfl (by rfl) (by rfl) (eqneqA58_f _ _ c35) rfl) ?_
 refine st_end (eS (cT rfl (lS (lO ?_))))
 refine pq (qa bf) ?_
 refine oE (eS (lR (bR (eR ?_))))
 obtain rfl := sj h
 exact E_out (E_up (eF1))
 replace h := ifF c26 h
 refine pq (qb (p_lss_fZ c26)) ?_
 refine oE (eS (cF rfl (L_exit ?_)))
 refine E_seqX ?_
 obtain rfl := sj h
 refine E_out ?_
 exact (E_exit () (ups_self trivial) [] (by decide) rfl)
 rintro (_ | u) h
 refine J_x (fun kt g => ?_)
 replace h := elimL h
 refine bH (eS (lS (lO ?_)))
 refine pq (qa bt) ?_
 refine oE (eS (lR ?_))
 obtain rfl := sj h
 exact eF1
 obtain rfl := Option.some.inj (elimR h)
 exact J_up (fun s hs => hs)
noncomputable def ref09_Same (a0 : Int × (Sl (Int × Int))) (a1 : Int × (Sl (Int × Int))) : Option (Bool) :=
 match a0, a1 with
 | (n1, s2), (n3, s4) => (if n1 = n3 then ((ref07_SameItems s2 s4).bind fun b9 => some b9) else some false)
theorem ref09_Same_r (m : Nat) {a0 : Int × (Sl (Int × Int))} {a1 : Int × (Sl (Int × Int))} {out : Bool} (h : ref09_Same a0 a1 = some out) : RunsP E1 (m + 2) 14 [.agg (r35 a0), .agg (r35 a1)] (.fresh, [.one (bT out)]) := by
 obtain ⟨n1, s2⟩ := a0
 obtain ⟨n3, s4⟩ := a1
 refine fn_F rfl (by rw [E1_fn]; exact show fiOf Tryd.prog 14 = _ by unfold fiOf; rw [Tryd.func14]; unfold Tryd.f14; rfl) rfl ?_
 dsimp only
 unfold ref09_Same at h
 refine lS (lO ?_)
 refine ol_new rfl rfl rfl (q_box ty36 rfl (cs := [iI n1, sF r57 s2]) rfl rfl) (fun k5 => ?_)
 refine ol_new rfl rfl rfl (q_box ty36 rfl (cs := [iI n3, sF r57 s4]) rfl rfl) (fun k6 => ?_)
 refine pq (qa bf) ?_
 refine oN ?_
 refine pq (q_fieldP rfl fa36_0 rfl) ?_
 refine pq (ql (iO n1) 1 sz3) ?_
 refine pq (q_fieldP rfl fa36_0 rfl) ?_
 refine pq (ql (iO n3) 0 sz3) ?_
 by_cases c7 : n1 = n3
 replace h := ifT c7 h
 refine pq (qb (p_eql_tZ c7)) ?_
 refine pq (qm bt) ?_
 refine pq (q_fieldP rfl fa36_1 rfl) ?_
 refine pq (ql (.one (sF r57 s2)) 1 sz25) ?_
 refine pq (q_fieldP rfl fa36_1 rfl) ?_
 refine pq (ql (.one (sF r57 s4)) 0 sz25) ?_
 obtain ⟨b9, h8, h⟩ := bindS h
 refine pq (qc (bO b9) [.one (sF r57 s2), .one (sF r57 s4)] (ref07_SameItems_r (m + 0) h8) (vw_cons (vd_one vc_s) (vw_cons (vd_one vc_s) vw_nil))) ?_
 refine pq (qpt (bO b9)) ?_
 refine pq (qa (bO b9)) ?_
 refine oE (eS (lR ?_))
 obtain rfl := sj h
 exact eF1
 replace h := ifF c7 h
 refine pq (qb (p_eql_fZ c7)) ?_
 refine pq (qm bf) ?_
 iterate 5 refine os ?_
 refine pq (qpf bf) ?_
 refine pq (qa bf) ?_
 refine oE (eS (lR ?_))
 obtain rfl := sj h
 exact eF1
end Ev
end Go.Proofs.YtnikcjnkcjondaaDoor
end
section
namespace Go.Proofs.YtnikcjnkcjondaaDoor
namespace Ev
open Go
set_option linter.unusedVariables false
set_option linter.unusedSimpArgs false
set_option maxRecDepth 100000
set_option maxHeartbeats 1000000
attribute [local irreducible] OpsL StL TnL WpL EndL
noncomputable def law13_PullSpreads (a0 : Int × (Int × Int) × (Sl (Int × Int × Int)) × (Sl (Int × Int)) × (Sl (Int × Int)) × Sl (Int) × Bool) : Option (Bool) :=
 match a0 with
 | (n1, (n2, n3), s4, s5, s6, s7, b8) => ((law13_Right n1).bind fun n11 => ((law13_Task_Matrix (n1, (n2, n3), s4, s5, s6, s7, b8)).bind fun (n26, n27, s28, s29, s30) => ((law13_Task_Vector (n1, (n2, n3), s4, s5, s6, s7, b8) s5).bind fun (n32, s33) => ((law13_Task_Vector (n1, (n2, n3), s4, s5, s6, s7, b8) s6).bind fun (n35, s36) => ((ref11_Union n11 (n32, s33) (n35, s36)).bind fun ((n38, s39), n40) => ((ref10_Of (n32, s33)).bind fun (n52, s53, s54) => ((pull_Times n11 (n26, n27, s28, s29, s30) (n52, s53, s54) (⟨false, 0, []⟩ : Sl (Int)) true).bind fun ((n56, s57), n58) => ((ref10_Of (n35, s36)).bind fun (n69, s70, s71) => ((pull_Times n11 (n26, n27, s28, s29, s30) (n69, s70, s71) (⟨false, 0, []⟩ : Sl (Int)) true).bind fun ((n73, s74), n75) => ((ref10_Of (n38, s39)).bind fun (n86, s87, s88) => ((pull_Times n11 (n26, n27, s28, s29, s30) (n86, s87, s88) (⟨false, 0, []⟩ : Sl (Int)) true).bind fun ((n90, s91), n92) => ((ref11_Union n11 (n56, s57) (n73, s74)).bind fun ((n94, s95), n96) => (if n40 ≠ 0 then ((FL).bind fun b100 => some b100) else (if n58 ≠ 0 then ((FL).bind fun b103 => some b103) else (if n75 ≠ 0 then ((FL).bind fun b106 => some b106) else (if n92 ≠ 0 then ((FL).bind fun b109 => some b109) else (if n96 ≠ 0 then ((FL).bind fun b112 => some b112) else ((ref02_Zero n11).bind fun n120 => ((ref12_Where (n94, s95) 4 n120).bind fun (n122, s123) => ((FL).bind fun b125 => (if b125 = true then ((ref09_Same (n90, s91) (n122, s123)).bind fun b127 => some b127) else some false)))))))))))))))))))))
theorem law13_PullSpreads_r (m : Nat) {a0 : Int × (Int × Int) × (Sl (Int × Int × Int)) × (Sl (Int × Int)) × (Sl (Int × Int)) × Sl (Int) × Bool} {out : Bool} (h : law13_PullSpreads a0 = some out) : RunsP E1 (m + 8) 3 [.agg (r27 a0)] (.fresh, [.one (bT out)]) := by
 obtain ⟨n1, ⟨n2, n3⟩, s4, s5, s6, s7, b8⟩ := a0
 refine fn_F rfl (by rw [E1_fn]; exact show fiOf Tryd.prog 3 = _ by unfold fiOf; rw [Tryd.func3]; unfold Tryd.f3; rfl) rfl ?_
 dsimp only
 unfold law13_PullSpreads at h
 refine lS (lO ?_)
 refine ol_new rfl rfl rfl (q_box ty28 rfl (cs := [iI n1, iC .u8 n2, iC .u8 n3, sF r76 s4, sF r57 s5, sF r57 s6, sF r62 s7, bC b8]) rfl rfl) (fun k9 => ?_)
 refine pq (qa bf) ?_
 refine oN ?_
 refine pq (q_fieldP rfl fa28_0 rfl) ?_
 refine pq (ql (iO n1) 0 sz22) ?_
 obtain ⟨n11, h10, h⟩ := bindS h
 refine pq (qc (iO n11) [iO n1] (law13_Right_r (m + 6) h10) (vw_cons (vd_one vc_v) vw_nil)) ?_
 refine pq (qa (iO n11)) ?_
 refine oE (eS (lS ?_))
 refine L_norm (L2 := ([[(k9, 8, [[iI n1, iC .u8 n2, iC .u8 n3, sF r76 s4, sF r57 s5, sF r57 s6, sF r62 s7, bC b8]])]] : BL)) [0] (by decide) rfl ?_
 refine L_turn 16 rfl [[], [], [], [], [], [], [], [], [], [], [], [], [], [], [], []] [(false, []), (false, []), (false, []), (false, []), (false, []), (false, []), (false, []), (false, []), (false, []), (false, []), (true, []), (true, []), (true, []), (false, [10]), (false, [11]), (false, [12])] [[2, 3, 4, 6, 7, 8, 10, 11, 12], [2, 3, 4, 6, 7, 8, 10, 11, 12], [0, 1, 3, 4, 6, 7, 8, 10, 11, 12], [0, 1, 2, 6, 7, 8, 10, 11, 12], [0, 1, 2, 6, 7, 8, 10, 11, 12], [6, 7, 8, 10, 11, 12], [0, 1, 2, 3, 4, 5, 7, 8, 10, 11, 12], [0, 1, 2, 3, 4, 5, 6, 10, 11, 12], [0, 1, 2, 3, 4, 5, 6, 10, 11, 12], [10, 11, 12], [0, 1, 2, 3, 4, 5, 6, 7, 8, 9, 11, 12], [0, 1, 2, 3, 4, 5, 6, 7, 8, 9, 10, 12], [0, 1, 2, 3, 4, 5, 6, 7, 8, 9, 10, 11], [], [], []] (by kernel_rfl) (by kernel_rfl) (by kernel_rfl) ?_ (fun bb12 hlt hnd => ?_)
 intro bb12 hlt hnd
 exact ⟨⟨djE, ⟨djE, ⟨djE, ⟨djE, ⟨djE, ⟨djE, ⟨djE, ⟨djE, ⟨djE, ⟨djE, ⟨djE, ⟨djE, ⟨djE, ⟨djE, ⟨djE, ⟨djE, trivial⟩⟩⟩⟩⟩⟩⟩⟩⟩⟩⟩⟩⟩⟩⟩⟩, (ltO_cons ltK_nil (ltO_cons ltK_nil (ltO_cons ltK_nil (ltO_cons ltK_nil (ltO_cons ltK_nil (ltO_cons ltK_nil (ltO_cons ltK_nil (ltO_cons ltK_nil (ltO_cons ltK_nil (ltO_cons ltK_nil (ltO_cons ltK_nil (ltO_cons ltK_nil (ltO_cons ltK_nil (ltO_cons ltK_nil (ltO_cons ltK_nil (ltO_cons ltK_nil ltO_nil))))))))))))))))⟩
 refine tq [0] rfl (hmc (nin_cons (ne_new (key_lt hlt 0 rfl)) (nin_cons (ne_new (key_lt hlt 0 rfl)) (nin_cons (ne_new (key_lt hlt 0 rfl)) nin_nil))) hmn) (ql (.agg [iI n1, iC .u8 n2, iC .u8 n3, sF r76 s4, sF r57 s5, sF r57 s6, sF r62 s7, bC b8]) 0 sz28) ?_
 obtain ⟨⟨n26, n27, s28, s29, s30⟩, h25, h⟩ := bindS h
 refine tq [] rfl hmn (qc (.agg [iI n26, iI n27, sC r3 s28, sC r3 s29, sC r2 s30]) [.agg [iI n1, iC .u8 n2, iC .u8 n3, sF r76 s4, sF r57 s5, sF r57 s6, sF r62 s7, bC b8]] (law13_Task_Matrix_r (m + 1) h25) (vw_cons (vd_agg (vc_cons vc_v (vc_cons vc_v (vc_cons vc_v (vc_cons vc_s (vc_cons vc_s (vc_cons vc_s (vc_cons vc_s (vc_cons vc_v vc_nil))))))))) vw_nil)) ?_
 refine tq [0] rfl (hmc (nin_cons (ne_new (key_lt hlt 0 rfl)) (nin_cons (ne_new (key_lt hlt 0 rfl)) (nin_cons (ne_new (key_lt hlt 0 rfl)) nin_nil))) hmn) (ql (.agg [iI n1, iC .u8 n2, iC .u8 n3, sF r76 s4, sF r57 s5, sF r57 s6, sF r62 s7, bC b8]) 0 sz28) ?_
 refine tq [] rfl hmn (q_fieldP rfl fa28_3 rfl) ?_
 refine tq [0] rfl (hmc (nin_cons (ne_new (key_lt hlt 0 rfl)) (nin_cons (ne_new (key_lt hlt 0 rfl)) (nin_cons (ne_new (key_lt hlt 0 rfl)) nin_nil))) hmn) (ql (.one (sF r57 s5)) 0 sz25) ?_
 obtain ⟨⟨n32, s33⟩, h31, h⟩ := bindS h
 refine tq [] rfl hmn (qc (.agg [iI n32, sC r57 s33]) [.agg [iI n1, iC .u8 n2, iC .u8 n3, sF r76 s4, sF r57 s5, sF r57 s6, sF r62 s7, bC b8], .one (sF r57 s5)] (law13_Task_Vector_r (m + 1) h31) (vw_cons (vd_agg (vc_cons vc_v (vc_cons vc_v (vc_cons vc_v (vc_cons vc_s (vc_cons vc_s (vc_cons vc_s (vc_cons vc_s (vc_cons vc_v vc_nil))))))))) (vw_cons (vd_one vc_s) vw_nil))) ?_
 refine tq [0] rfl (hmc (nin_cons (ne_new (key_lt hlt 0 rfl)) (nin_cons (ne_new (key_lt hlt 0 rfl)) (nin_cons (ne_new (key_lt hlt 0 rfl)) nin_nil))) hmn) (ql (.agg [iI n1, iC .u8 n2, iC .u8 n3, sF r76 s4, sF r57 s5, sF r57 s6, sF r62 s7, bC b8]) 0 sz28) ?_
 refine tq [] rfl hmn (q_fieldP rfl fa28_4 rfl) ?_
 refine tq [0] rfl (hmc (nin_cons (ne_new (key_lt hlt 0 rfl)) (nin_cons (ne_new (key_lt hlt 0 rfl)) (nin_cons (ne_new (key_lt hlt 0 rfl)) nin_nil))) hmn) (ql (.one (sF r57 s6)) 0 sz25) ?_
 obtain ⟨⟨n35, s36⟩, h34, h⟩ := bindS h
 refine tq [] rfl hmn (qc (.agg [iI n35, sC r57 s36]) [.agg [iI n1, iC .u8 n2, iC .u8 n3, sF r76 s4, sF r57 s5, sF r57 s6, sF r62 s7, bC b8], .one (sF r57 s6)] (law13_Task_Vector_r (m + 1) h34) (vw_cons (vd_agg (vc_cons vc_v (vc_cons vc_v (vc_cons vc_v (vc_cons vc_s (vc_cons vc_s (vc_cons vc_s (vc_cons vc_s (vc_cons vc_v vc_nil))))))))) (vw_cons (vd_one vc_s) vw_nil))) ?_
 refine tn_new rfl rfl rfl [] (by decide) rfl hmn rfl rfl (hkc (ne_new (key_lt hlt 0 rfl)) hkn) (q_alloc ty33 (row := [iI 0, iI 0, nC, nC, nC]) rfl rfl) ?_
 refine tn_new rfl rfl rfl [] (by decide) rfl hmn rfl rfl (hkc (ne_add rfl) (hkc (ne_new (key_lt hlt 0 rfl)) hkn)) (q_alloc ty36 (row := [iI 0, nC]) rfl rfl) ?_
 refine tn_new rfl rfl rfl [] (by decide) rfl hmn rfl rfl (hkc (ne_add rfl) (hkc (ne_add rfl) (hkc (ne_new (key_lt hlt 0 rfl)) hkn))) (q_alloc ty36 (row := [iI 0, nC]) rfl rfl) ?_
 refine tn_wr rfl rfl [2] (by decide) rfl (hm0 rfl) rfl (q_store (es' := [[iI n26, iI n27, sC r3 s28, sC r3 s29, sC r2 s30]]) 0 rfl rfl rfl sz33 rfl rfl rfl rfl rfl) (q := 2) rfl rfl ?_
 refine tn_wr rfl rfl [1] (by decide) rfl (hm0 rfl) rfl (q_store (es' := [[iI n32, sC r57 s33]]) 0 rfl rfl rfl sz36 rfl rfl rfl rfl rfl) (q := 1) rfl rfl ?_
 refine tn_wr rfl rfl [0] (by decide) rfl (hm0 rfl) rfl (q_store (es' := [[iI n35, sC r57 s36]]) 0 rfl rfl rfl sz36 rfl rfl rfl rfl rfl) (q := 0) rfl rfl ?_
 refine tn_end (eS (lS (lO ?_)))
 refine pq (qm (iO n11)) ?_
 refine pq (ql (.agg [iI n32, sC r57 s33]) 1 sz36) ?_
 refine pq (ql (.agg [iI n35, sC r57 s36]) 0 sz36) ?_
 obtain ⟨⟨⟨n38, s39⟩, n40⟩, h37, h⟩ := bindS h
 refine pq (qc (.tup [.agg [iI n38, sC r57 s39], iO n40]) [iO n11, .agg [iI n32, sC r57 s33], .agg [iI n35, sC r57 s36]] (ref11_Union_r (m + 4) h37) (vw_cons (vd_one vc_v) (vw_cons (vd_agg (vc_cons vc_v (vc_cons vc_s vc_nil))) (vw_cons (vd_agg (vc_cons vc_v (vc_cons vc_s vc_nil))) vw_nil)))) ?_
 refine pq (qm (.tup [.agg [iI n38, sC r57 s39], iO n40])) ?_
 refine pq (q_ext (v := .agg [iI n38, sC r57 s39]) rfl rfl) ?_
 refine pq (q_ext (v := iO n40) rfl rfl) ?_
 refine ol_new rfl rfl rfl (q_alloc ty36 (row := [iI 0, nC]) rfl rfl) (fun k41 => ?_)
 refine ow [[iI n38, sC r57 s39]] 0 sz36 ?_
 refine pq (qa (iO n40)) ?_
 refine oE (eS (lS ?_))
 refine L_norm (L2 := ([[(k41, 2, [[iI n38, sC r57 s39]])], [((bb12 + 12), 2, [[iI n35, sC r57 s36]])], [((bb12 + 11), 2, [[iI n32, sC r57 s33]])], [((bb12 + 10), 5, [[iI n26, iI n27, sC r3 s28, sC r3 s29, sC r2 s30]])]] : BL)) [0, 1, 2, 3] (by decide) rfl ?_
 refine L_turn 11 rfl [[], [], [], [], [], [], [], [], [], [], []] [(false, []), (false, []), (false, []), (false, []), (false, []), (false, []), (false, []), (false, []), (true, []), (false, [8]), (false, [])] [[1, 2, 3, 8], [0, 2, 3, 8], [0, 1, 8], [0, 1, 8], [8], [8], [7, 8], [6, 8, 9], [0, 1, 2, 3, 4, 5, 6, 7], [7], []] (by kernel_rfl) (by kernel_rfl) (by kernel_rfl) ?_ (fun bb42 hlt hnd => ?_)
 intro bb42 hlt hnd
 exact ⟨⟨djE, ⟨djE, ⟨djE, ⟨djE, ⟨djE, ⟨djE, ⟨djE, ⟨djE, ⟨djE, ⟨djE, ⟨djE, trivial⟩⟩⟩⟩⟩⟩⟩⟩⟩⟩⟩, (ltO_cons ltK_nil (ltO_cons ltK_nil (ltO_cons ltK_nil (ltO_cons ltK_nil (ltO_cons ltK_nil (ltO_cons ltK_nil (ltO_cons ltK_nil (ltO_cons ltK_nil (ltO_cons ltK_nil (ltO_cons ltK_nil (ltO_cons ltK_nil ltO_nil)))))))))))⟩
 refine tq [] rfl hmn (qm (iO n11)) ?_
 refine tq [3] rfl (hmc (nin_cons (ne_new (key_lt hlt 3 rfl)) nin_nil) hmn) (ql (.agg [iI n26, iI n27, sC r3 s28, sC r3 s29, sC r2 s30]) 0 sz33) ?_
 refine tq [2] rfl (hmc (nin_cons (ne_new (key_lt hlt 2 rfl)) nin_nil) hmn) (ql (.agg [iI n32, sC r57 s33]) 0 sz36) ?_
 obtain ⟨⟨n52, s53, s54⟩, h51, h⟩ := bindS h
 refine tq [] rfl hmn (qc (.agg [iI n52, sC r62 s53, sC r2 s54]) [.agg [iI n32, sC r57 s33]] (ref10_Of_r (m + 3) h51) (vw_cons (vd_agg (vc_cons vc_v (vc_cons vc_s vc_nil))) vw_nil)) ?_
 obtain ⟨⟨⟨n56, s57⟩, n58⟩, h55, h⟩ := bindS h
 refine tq [] rfl hmn (qc (.tup [.agg [iI n56, sC r57 s57], iO n58]) [iO n11, .agg [iI n26, iI n27, sC r3 s28, sC r3 s29, sC r2 s30], .agg [iI n52, sC r62 s53, sC r2 s54], .one nC, bt] (pull_Times_r (m + 0) h55) (vw_cons (vd_one vc_v) (vw_cons (vd_agg (vc_cons vc_v (vc_cons vc_v (vc_cons vc_s (vc_cons vc_s (vc_cons vc_s vc_nil)))))) (vw_cons (vd_agg (vc_cons vc_v (vc_cons vc_s (vc_cons vc_s vc_nil)))) (vw_cons (vd_one vc_s) (vw_cons (vd_one vc_v) vw_nil)))))) ?_
 refine tq [] rfl hmn (qm (.tup [.agg [iI n56, sC r57 s57], iO n58])) ?_
 refine tq [] rfl hmn (q_ext (v := .agg [iI n56, sC r57 s57]) rfl rfl) ?_
 refine tq [] rfl hmn (q_ext (v := iO n58) rfl rfl) ?_
 refine tn_new rfl rfl rfl [] (by decide) rfl (hm0 rfl) rfl rfl (hkc (ne_new (key_lt hlt 0 rfl)) (hkc (ne_new (key_lt hlt 1 rfl)) (hkc (ne_new (key_lt hlt 2 rfl)) (hkc (ne_new (key_lt hlt 3 rfl)) hkn)))) (q_alloc ty36 (row := [iI 0, nC]) rfl rfl) ?_
 refine tn_wr rfl rfl [0] (by decide) rfl (hm0 rfl) rfl (q_store (es' := [[iI n56, sC r57 s57]]) 0 rfl rfl rfl sz36 rfl rfl rfl rfl rfl) (q := 0) rfl rfl ?_
 refine tq [] rfl (hm0 rfl) (qa (iO n58)) ?_
 refine tn_end (eS (lS ?_))
 refine L_norm (L2 := ([[((bb42 + 8), 2, [[iI n56, sC r57 s57]])], [(k41, 2, [[iI n38, sC r57 s39]])], [((bb12 + 12), 2, [[iI n35, sC r57 s36]])], [((bb12 + 10), 5, [[iI n26, iI n27, sC r3 s28, sC r3 s29, sC r2 s30]])]] : BL)) [0, 1, 2, 4] (by decide) rfl ?_
 refine L_turn 11 rfl [[], [], [], [], [], [], [], [], [], [], []] [(false, []), (false, []), (false, []), (false, []), (false, []), (false, []), (false, []), (false, []), (true, []), (false, [8]), (false, [])] [[1, 2, 3, 8], [0, 2, 3, 8], [0, 1, 8], [0, 1, 8], [8], [8], [7, 8], [6, 8, 9], [0, 1, 2, 3, 4, 5, 6, 7], [7], []] (by kernel_rfl) (by kernel_rfl) (by kernel_rfl) ?_ (fun bb59 hlt hnd => ?_)
 intro bb59 hlt hnd
 exact ⟨⟨djE, ⟨djE, ⟨djE, ⟨djE, ⟨djE, ⟨djE, ⟨djE, ⟨djE, ⟨djE, ⟨djE, ⟨djE, trivial⟩⟩⟩⟩⟩⟩⟩⟩⟩⟩⟩, (ltO_cons ltK_nil (ltO_cons ltK_nil (ltO_cons ltK_nil (ltO_cons ltK_nil (ltO_cons ltK_nil (ltO_cons ltK_nil (ltO_cons ltK_nil (ltO_cons ltK_nil (ltO_cons ltK_nil (ltO_cons ltK_nil (ltO_cons ltK_nil ltO_nil)))))))))))⟩
 refine tq [] rfl hmn (qm (iO n11)) ?_
 refine tq [3] rfl (hmc (nin_cons (ne_new (key_lt hlt 3 rfl)) nin_nil) hmn) (ql (.agg [iI n26, iI n27, sC r3 s28, sC r3 s29, sC r2 s30]) 0 sz33) ?_
 refine tq [2] rfl (hmc (nin_cons (ne_new (key_lt hlt 2 rfl)) nin_nil) hmn) (ql (.agg [iI n35, sC r57 s36]) 0 sz36) ?_
 obtain ⟨⟨n69, s70, s71⟩, h68, h⟩ := bindS h
 refine tq [] rfl hmn (qc (.agg [iI n69, sC r62 s70, sC r2 s71]) [.agg [iI n35, sC r57 s36]] (ref10_Of_r (m + 3) h68) (vw_cons (vd_agg (vc_cons vc_v (vc_cons vc_s vc_nil))) vw_nil)) ?_
 obtain ⟨⟨⟨n73, s74⟩, n75⟩, h72, h⟩ := bindS h
 refine tq [] rfl hmn (qc (.tup [.agg [iI n73, sC r57 s74], iO n75]) [iO n11, .agg [iI n26, iI n27, sC r3 s28, sC r3 s29, sC r2 s30], .agg [iI n69, sC r62 s70, sC r2 s71], .one nC, bt] (pull_Times_r (m + 0) h72) (vw_cons (vd_one vc_v) (vw_cons (vd_agg (vc_cons vc_v (vc_cons vc_v (vc_cons vc_s (vc_cons vc_s (vc_cons vc_s vc_nil)))))) (vw_cons (vd_agg (vc_cons vc_v (vc_cons vc_s (vc_cons vc_s vc_nil)))) (vw_cons (vd_one vc_s) (vw_cons (vd_one vc_v) vw_nil)))))) ?_
 refine tq [] rfl hmn (qm (.tup [.agg [iI n73, sC r57 s74], iO n75])) ?_
 refine tq [] rfl hmn (q_ext (v := .agg [iI n73, sC r57 s74]) rfl rfl) ?_
 refine tq [] rfl hmn (q_ext (v := iO n75) rfl rfl) ?_
 refine tn_new rfl rfl rfl [] (by decide) rfl (hm0 rfl) rfl rfl (hkc (ne_new (key_lt hlt 0 rfl)) (hkc (ne_new (key_lt hlt 1 rfl)) (hkc (ne_new (key_lt hlt 2 rfl)) (hkc (ne_new (key_lt hlt 3 rfl)) hkn)))) (q_alloc ty36 (row := [iI 0, nC]) rfl rfl) ?_
 refine tn_wr rfl rfl [0] (by decide) rfl (hm0 rfl) rfl (q_store (es' := [[iI n73, sC r57 s74]]) 0 rfl rfl rfl sz36 rfl rfl rfl rfl rfl) (q := 0) rfl rfl ?_
 refine tq [] rfl (hm0 rfl) (qa (iO n75)) ?_
 refine tn_end (eS (lS ?_))
 refine L_norm (L2 := ([[((bb59 + 8), 2, [[iI n73, sC r57 s74]])], [((bb42 + 8), 2, [[iI n56, sC r57 s57]])], [(k41, 2, [[iI n38, sC r57 s39]])], [((bb12 + 10), 5, [[iI n26, iI n27, sC r3 s28, sC r3 s29, sC r2 s30]])]] : BL)) [0, 1, 2, 4] (by decide) rfl ?_
 refine L_turn 11 rfl [[], [], [], [], [], [], [], [], [], [], []] [(false, []), (false, []), (false, []), (false, []), (false, []), (false, []), (false, []), (false, []), (true, []), (false, [8]), (false, [])] [[1, 2, 3, 8], [0, 2, 3, 8], [0, 1, 8], [0, 1, 8], [8], [8], [7, 8], [6, 8, 9], [0, 1, 2, 3, 4, 5, 6, 7], [7], []] (by kernel_rfl) (by kernel_rfl) (by kernel_rfl) ?_ (fun bb76 hlt hnd => ?_)
 intro bb76 hlt hnd
 exact ⟨⟨djE, ⟨djE, ⟨djE, ⟨djE, ⟨djE, ⟨djE, ⟨djE, ⟨djE, ⟨djE, ⟨djE, ⟨djE, trivial⟩⟩⟩⟩⟩⟩⟩⟩⟩⟩⟩, (ltO_cons ltK_nil (ltO_cons ltK_nil (ltO_cons ltK_nil (ltO_cons ltK_nil (ltO_cons ltK_nil (ltO_cons ltK_nil (ltO_cons ltK_nil (ltO_cons ltK_nil (ltO_cons ltK_nil (ltO_cons ltK_nil (ltO_cons ltK_nil ltO_nil)))))))))))⟩
 refine tq [] rfl hmn (qm (iO n11)) ?_
 refine tq [3] rfl (hmc (nin_cons (ne_new (key_lt hlt 3 rfl)) nin_nil) hmn) (ql (.agg [iI n26, iI n27, sC r3 s28, sC r3 s29, sC r2 s30]) 0 sz33) ?_
 refine tq [2] rfl (hmc (nin_cons (ne_new (key_lt hlt 2 rfl)) nin_nil) hmn) (ql (.agg [iI n38, sC r57 s39]) 0 sz36) ?_
 obtain ⟨⟨n86, s87, s88⟩, h85, h⟩ := bindS h
 refine tq [] rfl hmn (qc (.agg [iI n86, sC r62 s87, sC r2 s88]) [.agg [iI n38, sC r57 s39]] (ref10_Of_r (m + 3) h85) (vw_cons (vd_agg (vc_cons vc_v (vc_cons vc_s vc_nil))) vw_nil)) ?_
 obtain ⟨⟨⟨n90, s91⟩, n92⟩, h89, h⟩ := bindS h
 refine tq [] rfl hmn (qc (.tup [.agg [iI n90, sC r57 s91], iO n92]) [iO n11, .agg [iI n26, iI n27, sC r3 s28, sC r3 s29, sC r2 s30], .agg [iI n86, sC r62 s87, sC r2 s88], .one nC, bt] (pull_Times_r (m + 0) h89) (vw_cons (vd_one vc_v) (vw_cons (vd_agg (vc_cons vc_v (vc_cons vc_v (vc_cons vc_s (vc_cons vc_s (vc_cons vc_s vc_nil)))))) (vw_cons (vd_agg (vc_cons vc_v (vc_cons vc_s (vc_cons vc_s vc_nil)))) (vw_cons (vd_one vc_s) (vw_cons (vd_one vc_v) vw_nil)))))) ?_
 refine tq [] rfl hmn (qm (.tup [.agg [iI n90, sC r57 s91], iO n92])) ?_
 refine tq [] rfl hmn (q_ext (v := .agg [iI n90, sC r57 s91]) rfl rfl) ?_
 refine tq [] rfl hmn (q_ext (v := iO n92) rfl rfl) ?_
 refine tn_new rfl rfl rfl [] (by decide) rfl (hm0 rfl) rfl rfl (hkc (ne_new (key_lt hlt 0 rfl)) (hkc (ne_new (key_lt hlt 1 rfl)) (hkc (ne_new (key_lt hlt 2 rfl)) (hkc (ne_new (key_lt hlt 3 rfl)) hkn)))) (q_alloc ty36 (row := [iI 0, nC]) rfl rfl) ?_
 refine tn_wr rfl rfl [0] (by decide) rfl (hm0 rfl) rfl (q_store (es' := [[iI n90, sC r57 s91]]) 0 rfl rfl rfl sz36 rfl rfl rfl rfl rfl) (q := 0) rfl rfl ?_
 refine tq [] rfl (hm0 rfl) (qa (iO n92)) ?_
 refine tn_end (eS (lS (lO ?_)))
 refine pq (qm (iO n11)) ?_
 refine pq (ql (.agg [iI n56, sC r57 s57]) 2 sz36) ?_
 refine pq (ql (.agg [iI n73, sC r57 s74]) 1 sz36) ?_
 obtain ⟨⟨⟨n94, s95⟩, n96⟩, h93, h⟩ := bindS h
 refine pq (qc (.tup [.agg [iI n94, sC r57 s95], iO n96]) [iO n11, .agg [iI n56, sC r57 s57], .agg [iI n73, sC r57 s74]] (ref11_Union_r (m + 4) h93) (vw_cons (vd_one vc_v) (vw_cons (vd_agg (vc_cons vc_v (vc_cons vc_s vc_nil))) (vw_cons (vd_agg (vc_cons vc_v (vc_cons vc_s vc_nil))) vw_nil)))) ?_
 refine pq (qm (.tup [.agg [iI n94, sC r57 s95], iO n96])) ?_
 refine pq (q_ext (v := .agg [iI n94, sC r57 s95]) rfl rfl) ?_
 refine pq (q_ext (v := iO n96) rfl rfl) ?_
 refine ol_new rfl rfl rfl (q_alloc ty36 (row := [iI 0, nC]) rfl rfl) (fun k97 => ?_)
 refine ow [[iI n94, sC r57 s95]] 0 sz36 ?_
 refine pq (qa (iO n96)) ?_
 refine oE (eS (lS (lS (lO ?_))))
 refine pq (qm (iO n40)) ?_
 by_cases c98 : n40 ≠ 0
 replace h := ifT c98 h
 refine pq (qb (p_neq_tZ c98)) ?_
 refine pq (qm bt) ?_
 iterate 2 refine os ?_
 refine pq (qpt bt) ?_
 refine pq (qm bt) ?_
 iterate 2 refine os ?_
 refine pq (qpt bt) ?_
 refine pq (qm bt) ?_
 iterate 2 refine os ?_
 refine pq (qpt bt) ?_
 refine pq (qm bt) ?_
 iterate 2 refine os ?_
 refine pq (qpt bt) ?_
 refine oE (eS (cT rfl (lS (lO ?_))))
 obtain ⟨b100, h99, h⟩ := bindS h
 refine pq (qc (bO b100) [] (FL_r (m + 6) h99) vw_nil) ?_
 refine pq (qa (bO b100)) ?_
 refine oE (eS (lR (eR ?_)))
 obtain rfl := sj h
 exact eF1
 replace h := ifF c98 h
 refine pq (qb (p_neq_fZ c98)) ?_
 refine pq (qm bf) ?_
 refine pq (qm (iO n58)) ?_
 by_cases c101 : n58 ≠ 0
 replace h := ifT c101 h
 refine pq (qb (p_neq_tZ c101)) ?_
 refine pq (qpf bt) ?_
 refine pq (qm bt) ?_
 iterate 2 refine os ?_
 refine pq (qpt bt) ?_
 refine pq (qm bt) ?_
 iterate 2 refine os ?_
 refine pq (qpt bt) ?_
 refine pq (qm bt) ?_
 iterate 2 refine os ?_
 refine pq (qpt bt) ?_
 refine oE (eS (cT rfl (lS (lO ?_))))
 obtain ⟨b103, h102, h⟩ := bindS h
 refine pq (qc (bO b103) [] (FL_r (m + 6) h102) vw_nil) ?_
 refine pq (qa (bO b103)) ?_
 refine oE (eS (lR (eR ?_)))
 obtain rfl := sj h
 exact eF1
 replace h := ifF c101 h
 refine pq (qb (p_neq_fZ c101)) ?_
 refine pq (qpf bf) ?_
 refine pq (qm bf) ?_
 refine pq (qm (iO n75)) ?_
 by_cases c104 : n75 ≠ 0
 replace h := ifT c104 h
 refine pq (qb (p_neq_tZ c104)) ?_
 refine pq (qpf bt) ?_
 refine pq (qm bt) ?_
 iterate 2 refine os ?_
 refine pq (qpt bt) ?_
 refine pq (qm bt) ?_
 iterate 2 refine os ?_
 refine pq (qpt bt) ?_
 refine oE (eS (cT rfl (lS (lO ?_))))
 obtain ⟨b106, h105, h⟩ := bindS h
 refine pq (qc (bO b106) [] (FL_r (m + 6) h105) vw_nil) ?_
 refine pq (qa (bO b106)) ?_
 refine oE (eS (lR (eR ?_)))
 obtain rfl := sj h
 exact eF1
 replace h := ifF c104 h
 refine pq (qb (p_neq_fZ c104)) ?_
 refine pq (qpf bf) ?_
 refine pq (qm bf) ?_
 refine pq (qm (iO n92)) ?_
 by_cases c107 : n92 ≠ 0
 replace h := ifT c107 h
 refine pq (qb (p_neq_tZ c107)) ?_
 refine pq (qpf bt) ?_
 refine pq (qm bt) ?_
 iterate 2 refine os ?_
 refine pq (qpt bt) ?_
 refine oE (eS (cT rfl (lS (lO ?_))))
 obtain ⟨b109, h108, h⟩ := bindS h
 refine pq (qc (bO b109) [] (FL_r (m + 6) h108) vw_nil) ?_
 refine pq (qa (bO b109)) ?_
 refine oE (eS (lR (eR ?_)))
 obtain rfl := sj h
 exact eF1
 replace h := ifF c107 h
 refine pq (qb (p_neq_fZ c107)) ?_
 refine pq (qpf bf) ?_
 refine pq (qm bf) ?_
 refine pq (qm (iO n96)) ?_
 by_cases c110 : n96 ≠ 0
 replace h := ifT c110 h
 refine pq (qb (p_neq_tZ c110)) ?_
 refine pq (qpf bt) ?_
 refine oE (eS (cT rfl (lS (lO ?_))))
 obtain ⟨b112, h111, h⟩ := bindS h
 refine pq (qc (bO b112) [] (FL_r (m + 6) h111) vw_nil) ?_
 refine pq (qa (bO b112)) ?_
 refine oE (eS (lR (eR ?_)))
 obtain rfl := sj h
 exact eF1
 replace h := ifF c110 h
 refine pq (qb (p_neq_fZ c110)) ?_
 refine pq (qpf bf) ?_
 refine oE (eS (cF rfl (lK (eS (lS ?_)))))
 refine L_norm (L2 := ([[(k97, 2, [[iI n94, sC r57 s95]])], [((bb76 + 8), 2, [[iI n90, sC r57 s91]])]] : BL)) [0, 1] (by decide) rfl ?_
 refine L_turn 5 rfl [[], [], [], [], [k97]] [(false, []), (false, []), (false, []), (false, []), (false, [])] [[1, 2], [0], [0], [], []] (by kernel_rfl) (by kernel_rfl) (by kernel_rfl) ?_ (fun bb113 hlt hnd => ?_)
 intro bb113 hlt hnd
 exact ⟨⟨djE, ⟨djE, ⟨djE, ⟨djE, ⟨djN, trivial⟩⟩⟩⟩⟩, (ltO_cons ltK_nil (ltO_cons ltK_nil (ltO_cons ltK_nil (ltO_cons ltK_nil (ltO_cons (ltK_cons (key_lt hlt 0 rfl) ltK_nil) ltO_nil)))))⟩
 refine tq [0] rfl (hm0 rfl) (ql (.agg [iI n94, sC r57 s95]) 0 sz36) ?_
 refine tq [] rfl (hm0 rfl) (qm (iO n11)) ?_
 obtain ⟨n120, h119, h⟩ := bindS h
 refine tq [] rfl (hm0 rfl) (qc (iO n120) [iO n11] (ref02_Zero_r (m + 5) h119) (vw_cons (vd_one vc_v) vw_nil)) ?_
 obtain ⟨⟨n122, s123⟩, h121, h⟩ := bindS h
 refine tq [] rfl (hm0 rfl) (qc (.agg [iI n122, sC r57 s123]) [.agg [iI n94, sC r57 s95], iO 4, iO n120] (ref12_Where_r (m + 4) h121) (vw_cons (vd_agg (vc_cons vc_v (vc_cons vc_s vc_nil))) (vw_cons (vd_one vc_v) (vw_cons (vd_one vc_v) vw_nil)))) ?_
 refine tn_wr rfl rfl [0] (by decide) rfl (hm0 rfl) rfl (q_store (es' := [[iI n122, sC r57 s123]]) 0 rfl rfl rfl sz36 rfl rfl rfl rfl rfl) (q := 0) rfl rfl ?_
 refine tn_end (eS (lS (lO ?_)))
 obtain ⟨b125, h124, h⟩ := bindS h
 refine pq (qc (bO b125) [] (FL_r (m + 6) h124) vw_nil) ?_
 refine pq (qm (bO b125)) ?_
 rcases b125 with _ | _
 replace h := wF h
 iterate 3 refine os ?_
 refine pq (qpf bf) ?_
 refine pq (qa bf) ?_
 refine oE (eS (lR ?_))
 obtain rfl := sj h
 exact eF1
 replace h := wT h
 refine pq (ql (.agg [iI n90, sC r57 s91]) 1 sz36) ?_
 refine pq (ql (.agg [iI n122, sC r57 s123]) 0 sz36) ?_
 obtain ⟨b127, h126, h⟩ := bindS h
 refine pq (qc (bO b127) [.agg [iI n90, sC r57 s91], .agg [iI n122, sC r57 s123]] (ref09_Same_r (m + 5) h126) (vw_cons (vd_agg (vc_cons vc_v (vc_cons vc_s vc_nil))) (vw_cons (vd_agg (vc_cons vc_v (vc_cons vc_s vc_nil))) vw_nil))) ?_
 refine pq (qpt (bO b127)) ?_
 refine pq (qa (bO b127)) ?_
 refine oE (eS (lR ?_))
 obtain rfl := sj h
 exact eF1
end Ev
end Go.Proofs.YtnikcjnkcjondaaDoor
end
section
namespace Go.Proofs.YtnikcjnkcjondaaDoor
namespace Ev
open Go
set_option linter.unusedVariables false
set_option linter.unusedSimpArgs false
abbrev It := Int × Int
def okS {α : Type} (w : Nat) (s : Sl α) : Prop := s.l = [] ∨ s.sz = w
theorem SlW.ok {α : Type} {w : Nat} {Q : α → Prop} {s : Sl α} (h : SlW w Q s) : okS w s := .inr h.1
def nilS {α : Type} : Sl α := ⟨false, 0, []⟩
theorem ok_nil {α : Type} {w : Nat} : okS w (nilS : Sl α) := .inl rfl
theorem ok_mo {α : Type} {w : Nat} (l : List α) : okS w (mo w l) := by cases l with | nil => exact .inl rfl | cons x l => exact .inr rfl
def asc : Int → Int → List It → Bool
 | _, _, [] => true
 | a, n, x :: l => decide (a < x.1) && decide (x.1 < n) && asc x.1 n l
def sizeB (n : Int) : Bool := decide (0 ≤ n) && decide (n ≤ 4096)
def rightB (v : Int × Sl It) : Bool := sizeB v.1 && asc (-1) v.1 v.2.l
def sureV (v : Int × Sl It) : Int × Sl It := if rightB v = true then v else (0, nilS)
theorem sureV_ok {v : Int × Sl It} (h : okS 2 v.2) : okS 2 (sureV v).2 := by unfold sureV; split; exact h; exact ok_nil
theorem sureV_right (v : Int × Sl It) : rightB (sureV v) = true := by unfold sureV; split; assumption; rfl
theorem asc_lt {n : Int} : ∀ {a : Int} {l : List It}, asc a n l = true → ∀ x ∈ l, a < x.1 ∧ x.1 < n
 | a, y :: l, h, x, hx => by
  simp only [asc, Bool.and_eq_true, decide_eq_true_eq] at h
  rcases List.mem_cons.1 hx with rfl | hx
  ·exact ⟨h.1.1, h.1.2⟩
  ·have := asc_lt h.2 x hx; omega
theorem asc_len {n : Int} : ∀ {a : Int} {l : List It}, asc a n l = true → (l.length : Int) ≤ max (n - a - 1) 0
 | a, [], h => by simp; omega
 | a, y :: l, h => by
  simp only [asc, Bool.and_eq_true, decide_eq_true_eq] at h
  have := asc_len h.2
  simp only [List.length_cons]; omega
theorem right_len {v : Int × Sl It} (h : rightB v = true) : v.2.l.length ≤ 4096 := by
 simp only [rightB, sizeB, Bool.and_eq_true, decide_eq_true_eq] at h
 have := asc_len h.2; omega
theorem sure_len (v : Int × Sl It) : (sureV v).2.l.length ≤ 4096 := right_len (sureV_right v)
theorem asc_iff {n : Int} {l : List It} : ∀ {a : Int}, asc a n l = true ↔ ∀ j (h : j < l.length), (if h0 : j = 0 then a < l[j].1 else l[j - 1].1 < l[j].1) ∧ l[j].1 < n := by
 induction l with
 | nil => intro a; simp [asc]
 | cons x l ih =>
  intro a
  simp only [asc, Bool.and_eq_true, decide_eq_true_eq, ih]
  constructor
  ·rintro ⟨⟨h1, h2⟩, h3⟩ j hj
   cases j with
   | zero => exact ⟨by simpa using h1, by simpa using h2⟩
   | succ j =>
    have := h3 j (by simpa using hj)
    refine ⟨?_, by simpa using this.2⟩
    rw [dif_neg (by omega)]
    cases j with
    | zero => simpa using this.1
    | succ j => have := this.1; rw [dif_neg (by omega)] at this; simpa using this
  ·intro h
   have h0 := h 0 (by simp)
   refine ⟨⟨by simpa using h0.1, by simpa using h0.2⟩, fun j hj => ?_⟩
   have := h (j + 1) (by simpa using hj)
   rw [dif_neg (by omega)] at this
   refine ⟨?_, by simpa using this.2⟩
   cases j with
   | zero => simpa using this.1
   | succ j => rw [dif_neg (by omega)]; simpa using this.1
theorem asc_iff' {n : Int} {l : List It} : asc (-1) n l = true ↔ ∀ j (h : j < l.length), 0 ≤ l[j].1 ∧ l[j].1 < n ∧ (j ≠ 0 → l[j - 1].1 < l[j].1) := by
 constructor
 ·intro h j hj
  have h1 := asc_lt h l[j] (List.getElem_mem hj)
  have h2 := (asc_iff.1 h j hj).1
  exact ⟨by omega, h1.2, fun h0 => by rw [dif_neg h0] at h2; exact h2⟩
 ·intro h
  refine asc_iff.2 fun j hj => ⟨?_, (h j hj).2.1⟩
  split
  ·have := (h j hj).1; omega
  ·rename_i h0; exact (h j hj).2.2 h0
theorem ref09_Right_eq (v : Int × Sl It) (hok : okS 2 v.2) (hl : v.2.l.length ≤ 9223372036854775807) : ref09_Right v = some (rightB v) := by
 obtain ⟨n, s⟩ := v
 simp only at hl
 unfold ref09_Right rightB sizeB
 by_cases h1 : n < 0
 ·simp only [if_pos h1, decide_eq_false (show ¬ 0 ≤ n by omega)]; rfl
 by_cases h2 : n > 4096
 ·simp only [if_neg h1, if_pos h2, decide_eq_false (show ¬ n ≤ 4096 by omega)]; simp
 simp only [if_neg h1, if_neg h2, decide_eq_true (show 0 ≤ n by omega), decide_eq_true (show n ≤ 4096 by omega), Bool.true_and]
 have hF : ∀ j (hj : j < s.l.length), ¬ (0 ≤ s.l[j].1 ∧ s.l[j].1 < n ∧ (j ≠ 0 → s.l[j - 1].1 < s.l[j].1)) → asc (-1) n s.l = false := fun j hj hh => by
  rw [Bool.eq_false_iff]; intro hc; exact hh (asc_iff'.1 hc j hj)
 obtain ⟨r, h3, h4⟩ := loop_up (b := ref09_Right_b1 n s) s.l.length (fun j a => a = (j : Int) ∧ ∀ i (h : i < s.l.length), i < j → 0 ≤ s.l[i].1 ∧ s.l[i].1 < n ∧ (i ≠ 0 → s.l[i - 1].1 < s.l[i].1)) (fun r => (asc (-1) n s.l = true ∧ r = .inl ()) ∨ (asc (-1) n s.l = false ∧ r = .inr false))
  (by
   rintro j _ hj ⟨rfl, ha⟩
   simp only [ref09_Right_b1, at_get hok hj, Option.bind_some, w_succ hj (by omega)]
   rw [if_pos (by omega)]
   by_cases c1 : s.l[j].1 < 0
   ·exact .inr ⟨_, if_pos c1, .inr ⟨hF j hj (by omega), rfl⟩⟩
   rw [if_neg c1]
   by_cases c2 : s.l[j].1 ≥ n
   ·exact .inr ⟨_, if_pos c2, .inr ⟨hF j hj (by omega), rfl⟩⟩
   rw [if_neg c2]
   by_cases c3 : (j : Int) > 0
   ·rw [if_pos c3]
    have e : IntKind.i64.wrap ((j : Int) - 1) = ((j - 1 : Nat) : Int) := by rw [wrap64 (by omega) (by omega)]; omega
    rw [e, at_get hok (show j - 1 < s.l.length by omega)]
    simp only [Option.bind_some]
    by_cases c4 : s.l[j].1 ≤ s.l[j - 1].1
    ·exact .inr ⟨_, if_pos c4, .inr ⟨hF j hj (fun hh => by have := hh.2.2 (by omega); omega), rfl⟩⟩
    ·refine .inl ⟨_, if_neg c4, rfl, fun i hi hij => ?_⟩
     by_cases hh : i = j
     ·subst hh; exact ⟨by omega, by omega, fun _ => by omega⟩
     ·exact ha i hi (by omega)
   ·refine .inl ⟨_, if_neg c3, rfl, fun i hi hij => ?_⟩
    by_cases hh : i = j
    ·subst hh; exact ⟨by omega, by omega, fun _ => by omega⟩
    ·exact ha i hi (by omega))
  (by
   rintro _ ⟨rfl, ha⟩
   exact ⟨_, if_neg (by omega), .inl ⟨asc_iff'.2 fun j hj => ha j hj hj, rfl⟩⟩) 0 (Nat.zero_le _) 0 ⟨rfl, fun i _ h => absurd h (by omega)⟩
 rw [h3]
 rcases h4 with ⟨h5, rfl⟩ | ⟨h5, rfl⟩ <;> simp [h5]
theorem ref09_Sure_eq (v : Int × Sl It) (hok : okS 2 v.2) (hl : v.2.l.length ≤ 9223372036854775807) : ref09_Sure v = some (sureV v) := by
 obtain ⟨n, s⟩ := v
 unfold ref09_Sure sureV
 simp only [ref09_Right_eq (n, s) hok hl, Option.bind_some]
 split <;> rfl
end Ev
end Go.Proofs.YtnikcjnkcjondaaDoor
end
section
namespace Go.Proofs.YtnikcjnkcjondaaDoor
namespace Ev
open Go
set_option linter.unusedVariables false
set_option linter.unusedSimpArgs false
def i64r (n : Int) : Prop := -9223372036854775808 ≤ n ∧ n ≤ 9223372036854775807
def u64r (n : Int) : Prop := 0 ≤ n ∧ n ≤ 18446744073709551615
theorem i64r_of {n : Int} (h : inK .i64 n) : i64r n := by simpa [inK, i64r, Lit.wf, IntKind.min, IntKind.max, IntKind.signed, IntKind.bits] using h
theorem wrap_u64 (n : Int) : IntKind.u64.wrap n = n % 18446744073709551616 := by
 simp [IntKind.wrap, IntKind.signed, IntKind.bits]
theorem u64_wrap (n : Int) : u64r (IntKind.u64.wrap n) := by rw [wrap_u64]; unfold u64r; omega
theorem u64_id {n : Int} (h : u64r n) : IntKind.u64.wrap (IntKind.i64.wrap n) = n := by rw [wrap_u64, IntKind.wrap_i64]; unfold u64r at h; omega
def ofW (n : Int) : Int × Int := (if n < 0 then -1 else 0, IntKind.u64.wrap n)
theorem wide_Of_eq {n : Int} (h : i64r n) : wide_Of n = some (ofW n) := by
 unfold wide_Of shr1 ofW shrI
 rw [if_pos (by omega)]
 have e : (2 : Int) ^ (min (63 : Int).toNat IntKind.i64.bits) = 9223372036854775808 := by decide
 rw [e]
 unfold i64r at h
 have : n.fdiv 9223372036854775808 = if n < 0 then -1 else 0 := by
  rw [Int.fdiv_eq_ediv_of_nonneg _ (by omega)]
  split <;> omega
 rw [this]; rfl
theorem ref01_Of_eq (n : Int) : ref01_Of n = some (ofW n) := by
 unfold ref01_Of ofW
 by_cases h : n < 0
 ·simp only [if_pos h]
 ·simp only [if_neg h]
theorem ofW_lo (n : Int) : u64r (ofW n).2 := u64_wrap n
def lessW (a b : Int × Int) : Bool := decide (a.1 < b.1) || (decide (a.1 = b.1) && decide (a.2 < b.2))
theorem wide_Compare_lt (a b : Int × Int) : ∃ c, wide_Compare a b = some c ∧ (c < 0 ↔ lessW a b = true) := by
 obtain ⟨a1, a2⟩ := a; obtain ⟨b1, b2⟩ := b
 unfold wide_Compare lessW
 simp only
 by_cases h1 : a1 = b1 ∧ a2 = b2
 ·rw [if_pos h1]; exact ⟨0, rfl, by simp; omega⟩
 rw [if_neg h1]
 by_cases h2 : a1 < b1
 ·rw [if_pos h2]; exact ⟨-1, rfl, by simp [h2]⟩
 rw [if_neg h2]
 by_cases h3 : a1 = b1
 ·rw [if_pos h3]
  by_cases h4 : a2 < b2
  ·rw [if_pos h4]; exact ⟨-1, rfl, by simp [h3, h4]⟩
  ·rw [if_neg h4]; exact ⟨1, rfl, by simp [h3]; omega⟩
 ·rw [if_neg h3]; exact ⟨1, rfl, by simp [h3]; omega⟩
theorem ref01_Compare_lt (a b : Int × Int) : ∃ c, ref01_Compare a b = some c ∧ (c < 0 ↔ lessW a b = true) := by
 obtain ⟨a1, a2⟩ := a; obtain ⟨b1, b2⟩ := b
 unfold ref01_Compare lessW
 simp only
 by_cases h2 : a1 < b1
 ·rw [if_pos h2]; exact ⟨-1, rfl, by simp [h2]⟩
 rw [if_neg h2]
 by_cases h3 : a1 = b1
 ·rw [if_pos h3]
  by_cases h4 : a2 < b2
  ·rw [if_pos h4]; exact ⟨-1, rfl, by simp [h3, h4]⟩
  ·rw [if_neg h4]
   by_cases h5 : a1 = b1 ∧ a2 = b2
   ·rw [if_pos h5]; exact ⟨0, rfl, by simp [h3]; omega⟩
   ·rw [if_neg h5]; exact ⟨1, rfl, by simp [h3]; omega⟩
 ·rw [if_neg h3]
  by_cases h5 : a1 = b1 ∧ a2 = b2
  ·exact absurd h5.1 h3
  ·rw [if_neg h5]; exact ⟨1, rfl, by simp [h3]; omega⟩
def lessrW (a b : Int × Int) : Int × Int := if lessW b a = true then b else a
def truthW (b : Bool) : Int × Int := if b = true then (0, 1) else (0, 0)
def addW (a b : Int × Int) : Int × Int := if IntKind.u64.wrap (a.2 + b.2) < a.2 then (IntKind.i64.wrap (IntKind.i64.wrap (a.1 + b.1) + 1), IntKind.u64.wrap (a.2 + b.2)) else (IntKind.i64.wrap (a.1 + b.1), IntKind.u64.wrap (a.2 + b.2))
def ringAdd (r : Int) (a b : Int × Int) : Int × Int :=
 if r = 1 ∨ r = 3 ∨ r = 4 then lessrW a b else if r = 2 then truthW (!(decide (a.1 = 0 ∧ a.2 = 0) && decide (b.1 = 0 ∧ b.2 = 0))) else if r = 5 then addW a b else (0, 0)
theorem ring_lesser_eq (a b : Int × Int) : ring_lesser a b = some (lessrW a b) := by
 obtain ⟨a1, a2⟩ := a; obtain ⟨b1, b2⟩ := b
 unfold ring_lesser lessrW
 obtain ⟨c, h1, h2⟩ := wide_Compare_lt (b1, b2) (a1, a2)
 simp only [h1, Option.bind_some]
 by_cases hc : c < 0
 ·rw [if_pos hc, if_pos (h2.1 hc)]
 ·rw [if_neg hc, if_neg (fun h => hc (h2.2 h))]
theorem ring_truth_eq (b : Bool) : ring_truth b = some (truthW b) := by
 unfold ring_truth truthW
 cases b
 ·rfl
 ·simp only [if_true, wide_Of_eq (show i64r 1 by unfold i64r; omega), Option.bind_some]; rfl
theorem wide_Add_eq (a b : Int × Int) : wide_Add a b = some (addW a b) := by
 obtain ⟨a1, a2⟩ := a; obtain ⟨b1, b2⟩ := b
 unfold wide_Add addW
 simp only
 split <;> rfl
theorem ref01_Add_eq (a b : Int × Int) : ref01_Add a b = some (addW a b) := by
 obtain ⟨a1, a2⟩ := a; obtain ⟨b1, b2⟩ := b
 unfold ref01_Add addW
 simp only
 split <;> rfl
theorem ring_Add_eq (r : Int) (a b : Int × Int) : ring_Add r a b = some (ringAdd r a b) := by
 obtain ⟨a1, a2⟩ := a; obtain ⟨b1, b2⟩ := b
 unfold ring_Add ringAdd
 simp only [ring_lesser_eq, ring_truth_eq, wide_Add_eq, Option.bind_some]
 by_cases h1 : r = 1
 ·simp only [if_pos h1, if_pos (show r = 1 ∨ r = 3 ∨ r = 4 from .inl h1)]
 by_cases h3 : r = 3
 ·simp only [if_neg h1, if_pos h3, if_pos (show r = 1 ∨ r = 3 ∨ r = 4 from .inr (.inl h3))]
 by_cases h4 : r = 4
 ·simp only [if_neg h1, if_neg h3, if_pos h4, if_pos (show r = 1 ∨ r = 3 ∨ r = 4 from .inr (.inr h4))]
 simp only [if_neg h1, if_neg h3, if_neg h4, if_neg (show ¬ (r = 1 ∨ r = 3 ∨ r = 4) by omega)]
 by_cases h2 : r = 2
 ·simp only [if_pos h2]
  by_cases ha : a1 = 0 ∧ a2 = 0
  ·by_cases hb : b1 = 0 ∧ b2 = 0
   ·simp [if_pos ha, if_pos hb, ha, hb]
   ·rw [if_pos ha, if_neg hb, decide_eq_true ha, decide_eq_false hb]; rfl
  ·rw [if_neg ha, decide_eq_false ha]; rfl
 ·simp only [if_neg h2]
  by_cases h5 : r = 5
  ·simp only [if_pos h5]
  ·simp only [if_neg h5]
theorem ref02_truth_eq (b : Bool) : ref02_truth b = some (truthW b) := by unfold ref02_truth truthW; cases b <;> rfl
theorem ref02_Add_eq (r : Int) (a b : Int × Int) : ref02_Add r a b = some (ringAdd r a b) := by
 obtain ⟨a1, a2⟩ := a; obtain ⟨b1, b2⟩ := b
 have hl : ((ref01_Compare (b1, b2) (a1, a2)).bind fun n => if n < 0 then some (b1, b2) else some (a1, a2)) = some (lessrW (a1, a2) (b1, b2)) := by
  obtain ⟨c, h1, h2⟩ := ref01_Compare_lt (b1, b2) (a1, a2)
  simp only [h1, Option.bind_some]
  unfold lessrW
  by_cases hc : c < 0
  ·rw [if_pos hc, if_pos (h2.1 hc)]
  ·rw [if_neg hc, if_neg (fun h => hc (h2.2 h))]
 unfold ref02_Add ringAdd
 simp only [hl, ref02_truth_eq, ref01_Add_eq, Option.bind_some]
 by_cases h1 : r = 1
 ·simp only [if_pos h1, if_pos (show r = 1 ∨ r = 3 ∨ r = 4 from .inl h1)]
 by_cases h3 : r = 3
 ·simp only [if_neg h1, if_pos h3, if_pos (show r = 1 ∨ r = 3 ∨ r = 4 from .inr (.inl h3))]
 by_cases h4 : r = 4
 ·simp only [if_neg h1, if_neg h3, if_pos h4, if_pos (show r = 1 ∨ r = 3 ∨ r = 4 from .inr (.inr h4))]
 simp only [if_neg h1, if_neg h3, if_neg h4, if_neg (show ¬ (r = 1 ∨ r = 3 ∨ r = 4) by omega)]
 by_cases h2 : r = 2
 ·simp only [if_pos h2]
  by_cases ha : a1 = 0 ∧ a2 = 0
  ·by_cases hb : b1 = 0 ∧ b2 = 0
   ·simp [if_pos ha, if_pos hb, ha, hb]
   ·rw [if_pos ha, if_neg hb, decide_eq_true ha, decide_eq_false hb]; rfl
  ·rw [if_neg ha, decide_eq_false ha]; rfl
 ·simp only [if_neg h2]
  by_cases h5 : r = 5
  ·simp only [if_pos h5]
  ·simp only [if_neg h5]
theorem ringAdd_lo {r : Int} {a b : Int × Int} (ha : u64r a.2) (hb : u64r b.2) : u64r (ringAdd r a b).2 := by
 have h0 : u64r 0 := by unfold u64r; omega
 have h1 : u64r 1 := by unfold u64r; omega
 unfold ringAdd lessrW truthW addW
 split
 ·split <;> assumption
 ·split
  ·split <;> assumption
  ·split
   ·split <;> exact u64_wrap _
   ·exact h0
def narrowW (a : Int × Int) : Int × Bool := if a = ofW (IntKind.i64.wrap a.2) then (IntKind.i64.wrap a.2, true) else (0, false)
theorem i64_wrap (n : Int) : i64r (IntKind.i64.wrap n) := by rw [IntKind.wrap_i64]; unfold i64r; omega
theorem ring_Narrow_eq (r : Int) (a : Int × Int) : ring_Narrow r a = some (narrowW a) := by
 obtain ⟨a1, a2⟩ := a
 unfold ring_Narrow wide_Narrow narrowW
 simp only [wide_Of_eq (i64_wrap a2), Option.bind_some]
 by_cases h : (a1, a2) = ofW (IntKind.i64.wrap a2)
 ·have h' : a1 = (ofW (IntKind.i64.wrap a2)).1 ∧ a2 = (ofW (IntKind.i64.wrap a2)).2 := ⟨congrArg Prod.fst h, congrArg Prod.snd h⟩
  rw [if_pos h, if_pos h']; rfl
 ·have h' : ¬ (a1 = (ofW (IntKind.i64.wrap a2)).1 ∧ a2 = (ofW (IntKind.i64.wrap a2)).2) := fun hh => h (Prod.ext hh.1 hh.2)
  rw [if_neg h, if_neg h']; rfl
theorem ref01_Narrow_eq {a : Int × Int} (h : u64r a.2) : ref01_Narrow a = some (narrowW a) := by
 obtain ⟨a1, a2⟩ := a
 unfold ref01_Narrow narrowW ofW
 simp only [u64_id h, Prod.mk.injEq, and_true]
 by_cases hn : IntKind.i64.wrap a2 < 0
 ·have hg : ¬ IntKind.i64.wrap a2 ≥ 0 := by omega
  simp only [if_pos hn, if_neg hg]
  by_cases h1 : a1 = 0
  ·have : ¬ a1 = -1 := by omega
   simp only [if_pos h1, if_neg this]
  ·simp only [if_neg h1]
   split <;> rfl
 ·have hg : IntKind.i64.wrap a2 ≥ 0 := by omega
  simp only [if_neg hn, if_pos hg]
  by_cases h1 : a1 = 0
  ·simp only [if_pos h1]
  ·simp only [if_neg h1]
   split <;> rfl
theorem ring_Is_eq (r : Int) : ring_Is r = some (decide (1 ≤ r) && decide (r ≤ 5)) := by
 unfold ring_Is
 by_cases h1 : r ≥ 1
 ·rw [if_pos h1, decide_eq_true (show 1 ≤ r from h1)]
  by_cases h2 : r ≤ 5
  ·rw [if_pos h2, decide_eq_true h2]; rfl
  ·rw [if_neg h2, decide_eq_false h2]; rfl
 ·rw [if_neg h1, decide_eq_false (show ¬ 1 ≤ r from h1)]; rfl
theorem ref02_Is_eq (r : Int) : ref02_Is r = some (decide (1 ≤ r) && decide (r ≤ 5)) := by
 unfold ref02_Is
 by_cases h1 : r ≥ 1
 ·rw [if_pos h1, decide_eq_true (show 1 ≤ r from h1)]
  by_cases h2 : r ≤ 5
  ·rw [if_pos h2, decide_eq_true h2]; rfl
  ·rw [if_neg h2, decide_eq_false h2]; rfl
 ·rw [if_neg h1, decide_eq_false (show ¬ 1 ≤ r from h1)]; rfl
def zeroR (r : Int) : Int := if r = 1 ∨ r = 3 ∨ r = 4 then 4611686018427387904 else 0
theorem zeroR_r (r : Int) : i64r (zeroR r) := by unfold zeroR i64r; split <;> omega
theorem ring_Zero_eq (r : Int) : ring_Zero r = some (zeroR r) := by
 unfold ring_Zero zeroR
 by_cases h1 : r = 1
 ·simp [h1]
 by_cases h3 : r = 3
 ·simp [h3]
 by_cases h4 : r = 4
 ·simp [h4]
 simp [h1, h3, h4]
theorem ref02_Zero_eq (r : Int) : ref02_Zero r = some (zeroR r) := by
 unfold ref02_Zero ref02_least zeroR
 by_cases h1 : r = 1
 ·simp [h1]
 by_cases h3 : r = 3
 ·simp [h3]
 by_cases h4 : r = 4
 ·simp [h4]
 simp [h1, h3, h4]
end Ev
end Go.Proofs.YtnikcjnkcjondaaDoor
end
section
namespace Go.Proofs.YtnikcjnkcjondaaDoor
namespace Ev
open Go
set_option linter.unusedVariables false
set_option linter.unusedSimpArgs false
set_option maxRecDepth 100000
set_option maxHeartbeats 1000000
attribute [local irreducible] OpsL StL TnL WpL EndL
end Ev
end Go.Proofs.YtnikcjnkcjondaaDoor
end
section
namespace Go.Proofs.YtnikcjnkcjondaaDoor
namespace Ev
open Go
set_option linter.unusedVariables false
set_option linter.unusedSimpArgs false
def okR (r : Int) : Bool := decide (1 ≤ r) && decide (r ≤ 5)
def holdsB (t v k : Int) : Bool := (decide (t = 1) && decide (v < k)) || (decide (t = 2) && decide (k < v)) || (decide (t = 3) && decide (v = k)) || (decide (t = 4) && !decide (v = k))
theorem ref12_Holds_eq (t v k : Int) : ref12_Holds t v k = some (holdsB t v k) := by
 unfold ref12_Holds holdsB
 by_cases h1 : t = 1
 ·subst h1; simp; split <;> simp_all
 by_cases h2 : t = 2
 ·subst h2; simp; split <;> simp_all
 by_cases h3 : t = 3
 ·subst h3; simp; split <;> simp_all
 by_cases h4 : t = 4
 ·subst h4; simp; split <;> simp_all
 simp [h1, h2, h3, h4]
def whereV (v : Int × Sl It) (t k : Int) : Int × Sl It := ((sureV v).1, mo 2 ((sureV v).2.l.filter fun x => holdsB t x.2 k))
theorem filter_take {α : Type} (p : α → Bool) (l : List α) {j : Nat} (hj : j < l.length) : (l.take (j + 1)).filter p = (l.take j).filter p ++ (if p l[j] = true then [l[j]] else []) := by
 rw [List.take_succ_eq_append_getElem hj, List.filter_append]
 congr 1
 by_cases h : p l[j] = true
 ·simp [h]
 ·simp [h]
theorem ref12_Where_eq (v : Int × Sl It) (t k : Int) (hok : okS 2 v.2) (hl : v.2.l.length ≤ 9223372036854775807) : ref12_Where v t k = some (whereV v t k) := by
 obtain ⟨n, s⟩ := v
 unfold ref12_Where whereV
 simp only [ref09_Sure_eq (n, s) hok hl, Option.bind_some]
 have hok2 : okS 2 (sureV (n, s)).2 := sureV_ok hok
 have hlen := sure_len (n, s)
 generalize sureV (n, s) = u at hok2 hlen
 obtain ⟨n2, s2⟩ := u
 simp only at hok2 hlen ⊢
 obtain ⟨q, h1, h2⟩ := loop_up (b := ref12_Where_b1 t k s2) s2.l.length (fun j a => a = ((j : Int), (s2.l.take j).filter fun x => holdsB t x.2 k)) (fun q => q = .inl (s2.l.filter fun x => holdsB t x.2 k))
  (by
   rintro j _ hj rfl
   have hb : ((s2.l.take j).filter fun x => holdsB t x.2 k).length + 1 ≤ bound := by
    have := List.length_filter_le (fun x : It => holdsB t x.2 k) (s2.l.take j)
    have h3 : (s2.l.take j).length ≤ j := by simp; omega
    unfold bound; omega
   simp only [ref12_Where_b1, at_get hok2 hj, Option.bind_some, w_succ hj (by omega), ref12_Holds_eq]
   rw [if_pos (by omega)]
   have hf := filter_take (fun x : It => holdsB t x.2 k) s2.l hj
   by_cases c : holdsB t s2.l[j].2 k = true
   ·rw [if_pos c] at hf
    refine .inl ⟨_, ?_, by rw [hf]⟩
    rw [if_pos c, app_ok (by simpa using hb)]; rfl
   ·rw [if_neg c, List.append_nil] at hf
    exact .inl ⟨_, if_neg c, by rw [hf]⟩)
  (by
   rintro _ rfl
   exact ⟨_, if_neg (by omega), by rw [List.take_length]⟩) 0 (Nat.zero_le _) (0, []) rfl
 subst h2
 rw [h1]
 rfl
end Ev
end Go.Proofs.YtnikcjnkcjondaaDoor
end
section
namespace Go.Proofs.YtnikcjnkcjondaaDoor
namespace Ev
open Go
set_option linter.unusedVariables false
set_option linter.unusedSimpArgs false
def getI (p : Int) : List It → Option Int
 | [] => none
 | x :: l => if x.1 = p then some x.2 else getI p l
def encO : Option Int → Int × Bool
 | some x => (x, true)
 | none => (0, false)
def itemO (p : Nat) : Option Int → Option It
 | some x => some ((p : Int), x)
 | none => none
def gathR (a k : Nat) (g : Nat → Option Int) : List It := (List.range' a k).filterMap fun p => itemO p (g p)
theorem gathR_zero (a : Nat) (g : Nat → Option Int) : gathR a 0 g = [] := rfl
theorem gathR_succ (a k : Nat) (g : Nat → Option Int) : gathR a (k + 1) g = (match g a with | some x => [((a : Int), x)] | none => []) ++ gathR (a + 1) k g := by
 unfold gathR
 rw [List.range'_succ, List.filterMap_cons]
 cases h : g a <;> simp [itemO, h]
theorem gathR_app (a k m : Nat) (g : Nat → Option Int) : gathR a (k + m) g = gathR a k g ++ gathR (a + k) m g := by
 unfold gathR
 rw [← List.range'_append_1, List.filterMap_append]
theorem gathR_last (a k : Nat) (g : Nat → Option Int) : gathR a (k + 1) g = gathR a k g ++ (match g (a + k) with | some x => [(((a + k : Nat) : Int), x)] | none => []) := by
 rw [gathR_app, gathR_succ, gathR_zero, List.append_nil]
theorem gathR_congr {a k : Nat} {g g' : Nat → Option Int} (h : ∀ p, a ≤ p → p < a + k → g p = g' p) : gathR a k g = gathR a k g' := by
 induction k generalizing a with
 | zero => rfl
 | succ k ih => rw [gathR_succ, gathR_succ, h a (Nat.le_refl _) (by omega), ih fun p h1 h2 => h p (by omega) (by omega)]
theorem gathR_none {a k : Nat} {g : Nat → Option Int} (h : ∀ p, a ≤ p → p < a + k → g p = none) : gathR a k g = [] := by
 induction k generalizing a with
 | zero => rfl
 | succ k ih => rw [gathR_succ, h a (Nat.le_refl _) (by omega), ih fun p h1 h2 => h p (by omega) (by omega)]; rfl
theorem gathR_mem {a k : Nat} {g : Nat → Option Int} {x : It} (h : x ∈ gathR a k g) : ∃ p : Nat, a ≤ p ∧ p < a + k ∧ x.1 = (p : Int) ∧ g p = some x.2 := by
 unfold gathR at h
 obtain ⟨p, hp, he⟩ := List.mem_filterMap.1 h
 rw [List.mem_range'_1] at hp
 cases hg : g p with
 | none => rw [hg] at he; simp [itemO] at he
 | some v => rw [hg] at he; simp only [itemO, Option.some.injEq] at he; subst he; exact ⟨p, hp.1, hp.2, rfl, hg⟩
theorem gathR_len (a k : Nat) (g : Nat → Option Int) : (gathR a k g).length ≤ k := by
 have := List.length_filterMap_le (fun p => itemO p (g p)) (List.range' a k)
 simpa [gathR] using this
theorem gathR_asc (a k : Nat) (g : Nat → Option Int) (b n : Int) (hb : b < (a : Int)) (hn : ((a + k : Nat) : Int) ≤ n) : asc b n (gathR a k g) = true := by
 induction k generalizing a b with
 | zero => rfl
 | succ k ih =>
  rw [gathR_succ]
  cases h : g a with
  | none => exact ih (a + 1) b (by omega) (by omega)
  | some v =>
   show (decide (b < (a : Int)) && decide ((a : Int) < n) && asc (a : Int) n (gathR (a + 1) k g)) = true
   rw [decide_eq_true hb, decide_eq_true (by omega), ih (a + 1) a (by omega) (by omega)]; rfl
theorem getI_none {p : Int} : ∀ {l : List It}, (∀ x ∈ l, x.1 ≠ p) → getI p l = none
 | [], _ => rfl
 | x :: l, h => by
  unfold getI
  rw [if_neg (h x List.mem_cons_self)]
  exact getI_none fun y hy => h y (List.mem_cons_of_mem _ hy)
theorem getI_gath (a k : Nat) (g : Nat → Option Int) (p : Nat) (h1 : a ≤ p) (h2 : p < a + k) : getI (p : Int) (gathR a k g) = g p := by
 induction k generalizing a with
 | zero => omega
 | succ k ih =>
  rw [gathR_succ]
  by_cases hp : a = p
  ·subst hp
   cases h : g a with
   | some v => simp [getI]
   | none =>
    refine getI_none fun x hx => ?_
    obtain ⟨q, q1, q2, q3, q4⟩ := gathR_mem (by simpa using hx)
    omega
  ·have := ih (a + 1) (by omega) (by omega)
   cases h : g a with
   | some v => simp only [List.singleton_append, getI]; rw [if_neg (by omega)]; exact this
   | none => exact this
theorem asc_gath {n : Int} : ∀ {l : List It} {a k : Nat}, asc ((a : Int) - 1) n l = true → ((a + k : Nat) : Int) = n → l = gathR a k fun p => getI (p : Int) l
 | [], a, k, h, hn => (gathR_none fun p _ _ => rfl).symm
 | x :: l, a, k, h, hn => by
  simp only [asc, Bool.and_eq_true, decide_eq_true_eq] at h
  obtain ⟨⟨h1, h2⟩, h3⟩ := h
  obtain ⟨q, hq⟩ : ∃ q : Nat, x.1 = (q : Int) := ⟨x.1.toNat, by omega⟩
  have hk : k = (q - a) + ((k - (q - a) - 1) + 1) := by omega
  rw [hk, gathR_app, gathR_succ]
  have e1 : gathR a (q - a) (fun p => getI (p : Int) (x :: l)) = [] := gathR_none fun p p1 p2 => by
   refine getI_none fun y hy => ?_
   rcases List.mem_cons.1 hy with rfl | hy
   ·omega
   ·have := asc_lt h3 y hy; omega
  have ea : a + (q - a) = q := by omega
  have e2 : getI ((a + (q - a) : Nat) : Int) (x :: l) = some x.2 := by unfold getI; rw [if_pos (by omega)]
  have h3' : asc (((q + 1 : Nat) : Int) - 1) n l = true := by rw [hq] at h3; simpa using h3
  have ih := asc_gath (k := k - (q - a) - 1) h3' (by omega)
  rw [e1, e2, ea]
  have e3 : gathR (q + 1) (k - (q - a) - 1) (fun p => getI (p : Int) (x :: l)) = l := by
   rw [gathR_congr (g' := fun p => getI (p : Int) l) fun p p1 p2 => by
    show getI (p : Int) (x :: l) = _
    rw [getI, if_neg (by omega)]]
   exact ih.symm
  rw [e3, List.nil_append, ← hq]; rfl
end Ev
end Go.Proofs.YtnikcjnkcjondaaDoor
end
section
namespace Go.Proofs.YtnikcjnkcjondaaDoor
namespace Ev
open Go
set_option linter.unusedVariables false
set_option linter.unusedSimpArgs false
theorem right_at {n : Int} {s : Sl It} (h : rightB (n, s) = true) {j : Nat} (hj : j < s.l.length) : 0 ≤ s.l[j].1 ∧ s.l[j].1 < n := by
 simp only [rightB, Bool.and_eq_true] at h
 have := asc_lt h.2 _ (List.getElem_mem hj); omega
theorem right_size {n : Int} {s : Sl It} (h : rightB (n, s) = true) : 0 ≤ n ∧ n ≤ 4096 := by
 simp only [rightB, sizeB, Bool.and_eq_true, decide_eq_true_eq] at h; omega
theorem getI_append (p : Int) : ∀ (l m : List It), getI p (l ++ m) = match getI p l with | some x => some x | none => getI p m
 | [], m => rfl
 | x :: l, m => by
  simp only [List.cons_append, getI]
  by_cases h : x.1 = p
  ·rw [if_pos h, if_pos h]
  ·rw [if_neg h, if_neg h]; exact getI_append p l m
theorem getI_take {n : Int} {s : Sl It} (h : rightB (n, s) = true) {j : Nat} (hj : j < s.l.length) : getI (s.l[j].1) (s.l.take j) = none := by
 simp only [rightB, Bool.and_eq_true] at h
 refine getI_none fun x hx => ?_
 obtain ⟨i, hi, rfl⟩ := List.getElem_of_mem hx
 have hij : i < j := by simp at hi; omega
 rw [List.getElem_take]
 have key : ∀ d i (hi : i + d + 1 < s.l.length), s.l[i].1 < s.l[i + d + 1].1 := by
  intro d
  induction d with
  | zero => intro i hi; exact ((asc_iff'.1 h.2) (i + 1) hi).2.2 (by omega)
  | succ d ih => intro i hi; have h1 := ih i (by omega); have h2 := ((asc_iff'.1 h.2) (i + (d + 1) + 1) hi).2.2 (by omega); simp only [Nat.add_sub_cancel] at h2; exact Int.lt_trans h1 h2
 have := key (j - i - 1) i (by omega)
 simp only [show i + (j - i - 1) + 1 = j by omega] at this
 omega
theorem sure_id {v : Int × Sl It} (h : rightB v = true) : sureV v = v := by unfold sureV; rw [if_pos h]
end Ev
end Go.Proofs.YtnikcjnkcjondaaDoor
end
section
namespace Go.Proofs.YtnikcjnkcjondaaDoor
namespace Ev
open Go
set_option linter.unusedVariables false
set_option linter.unusedSimpArgs false
theorem sameItems_eq (s s' : Sl It) (hok : okS 2 s) (hok' : okS 2 s') (he : s.l = s'.l) (hl : s.l.length ≤ 9223372036854775807) : ref07_SameItems s s' = some true := by
 unfold ref07_SameItems
 rw [if_neg (by rw [he]; simp)]
 obtain ⟨q, h1, h2⟩ := loop_up (b := ref07_SameItems_b1 s s') s.l.length (fun j a => a = (j : Int)) (fun q => q = .inl ())
  (by
   rintro j _ hj rfl
   have hj' : j < s'.l.length := by rw [← he]; exact hj
   have e2 : s'.l[j] = s.l[j] := by simp only [he]
   simp only [ref07_SameItems_b1, at_get hok hj, at_get hok' hj', e2, Option.bind_some, w_succ hj (by omega)]
   rw [if_pos (by omega)]
   exact .inl ⟨_, if_pos (by simp), rfl⟩)
  (by
   rintro _ rfl
   exact ⟨_, if_neg (by omega), rfl⟩) 0 (Nat.zero_le _) 0 rfl
 subst h2
 rw [h1]; rfl
theorem same_eq (v v' : Int × Sl It) (hok : okS 2 v.2) (hok' : okS 2 v'.2) (hn : v.1 = v'.1) (he : v.2.l = v'.2.l) (hl : v.2.l.length ≤ 9223372036854775807) : ref09_Same v v' = some true := by
 obtain ⟨n, s⟩ := v
 obtain ⟨n', s'⟩ := v'
 simp only at hn he hok hok' hl
 unfold ref09_Same
 simp only [if_pos hn, sameItems_eq s s' hok hok' he hl, Option.bind_some]
end Ev
end Go.Proofs.YtnikcjnkcjondaaDoor
end
section
namespace Go.Proofs.YtnikcjnkcjondaaDoor
namespace Ev
open Go
set_option linter.unusedVariables false
set_option linter.unusedSimpArgs false
abbrev Ed := Int × Int × Int
def belowB (a b : Ed) : Bool := decide (a.1 < b.1) || (decide (a.1 = b.1) && decide (a.2.1 < b.2.1))
theorem below_eq (a b : Ed) : ref05_below a b = some (belowB a b) := by
 obtain ⟨a1, a2, a3⟩ := a; obtain ⟨b1, b2, b3⟩ := b
 unfold ref05_below belowB
 simp only
 by_cases h1 : a1 < b1
 ·simp [h1]
 ·by_cases h2 : a1 = b1
  ·by_cases h3 : a2 < b2
   ·simp [h2, h3]
   ·simp [h2, h3]
  ·simp [h1, h2]
def Rises (l : List Ed) : Prop := ∀ i j (hi : i < l.length) (hj : j < l.length), i < j → belowB l[i] l[j] = true
theorem below_trans {a b c : Ed} (h1 : belowB a b = true) (h2 : belowB b c = true) : belowB a c = true := by
 simp only [belowB, Bool.or_eq_true, Bool.and_eq_true, decide_eq_true_eq] at *; omega
theorem mo_at {α : Type} {w : Nat} {l : List α} {j : Nat} (hj : j < l.length) : atS w (mo w l) (j : Int) = some l[j] := by
 have := at_get (s := mo w l) (w := w) (ok_mo l) (j := j) (by rw [mo_l]; exact hj)
 rw [this]
 congr 1
 simp only [mo_l]
def insAt {α : Type} (l : List α) (i : Nat) (x : α) : List α := l.take i ++ x :: l.drop i
theorem insAt_len {α : Type} {l : List α} {i : Nat} {x : α} (hi : i ≤ l.length) : (insAt l i x).length = l.length + 1 := by unfold insAt; simp; omega
theorem ins_get {α : Type} {l : List α} {i k : Nat} {x : α} (hi : i ≤ l.length) (hk : k < (l.take i ++ x :: l.drop i).length) (hk2 : k < l.length + 1) : (l.take i ++ x :: l.drop i)[k] = if h1 : k < i then l[k]'(by omega) else if h2 : k = i then x else l[k - 1]'(by omega) := by
 rw [List.getElem_append]
 have ht : (l.take i).length = i := by simp; omega
 by_cases h1 : k < i
 ·rw [dif_pos (by omega), dif_pos h1, List.getElem_take]
 ·rw [dif_neg (by omega), dif_neg h1]
  by_cases h2 : k = i
  ·subst h2; simp [ht]
  ·rw [dif_neg h2]
   obtain ⟨m, hm⟩ : ∃ m, k - (l.take i).length = m + 1 := ⟨k - i - 1, by omega⟩
   simp only [hm, List.getElem_cons_succ, List.getElem_drop]
   congr 1; omega
theorem insAt_get {α : Type} {l : List α} {i k : Nat} {x : α} (hi : i ≤ l.length) (hk : k < (insAt l i x).length) : (insAt l i x)[k] = if h1 : k < i then l[k]'(by omega) else if h2 : k = i then x else l[k - 1]'(by rw [insAt_len hi] at hk; omega) := ins_get hi hk (by rw [insAt_len hi] at hk; exact hk)
theorem shift_end {α : Type} {l X : List α} {z x : α} {i : Nat} (hi : i ≤ l.length) (hl : X.length = l.length + 1) (h : ∀ k (hk : k < X.length), X[k] = if h0 : k ≤ i then (l ++ [z])[k]'(by simp; omega) else (l ++ [z])[k - 1]'(by simp; omega)) : X.set i x = insAt l i x := by
 refine List.ext_getElem (by rw [List.length_set, hl, insAt_len hi]) fun k h1 h2 => ?_
 have hk : k < X.length := by simpa using h1
 rw [insAt_get hi, List.getElem_set]
 by_cases c1 : i = k
 ·subst c1; rw [if_pos rfl, dif_neg (by omega), dif_pos rfl]
 rw [if_neg c1, h k hk]
 by_cases c2 : k < i
 ·rw [dif_pos (by omega), dif_pos c2, List.getElem_append_left (by omega)]
 ·rw [dif_neg (by omega), dif_neg c2, dif_neg (fun e => c1 e.symm), List.getElem_append_left (by omega)]
theorem set_get {α : Type} {X : List α} {j k : Nat} {y : α} (hk : k < (X.set j y).length) : (X.set j y)[k] = if j = k then y else X[k]'(by simpa using hk) := List.getElem_set hk
theorem shift_step {α : Type} {A X : List α} {j : Nat} (hX : X.length = A.length) (hj : j < X.length) (hj0 : 0 < j) (h : ∀ k (hk : k < X.length), X[k] = if h0 : k ≤ j then A[k]'(by omega) else A[k - 1]'(by omega)) :
  ∀ k (hk : k < (X.set j (X[j - 1]'(by omega))).length), (X.set j (X[j - 1]'(by omega)))[k] = if h0 : k ≤ j - 1 then A[k]'(by rw [List.length_set] at hk; omega) else A[k - 1]'(by rw [List.length_set] at hk; omega) := by
 intro k hk
 have hk' : k < X.length := by simpa using hk
 rw [set_get]
 by_cases c : j = k
 ·subst c
  have e := h (j - 1) (by omega)
  rw [dif_pos (by omega)] at e
  rw [if_pos rfl, dif_neg (by omega)]
  exact e
 ·rw [if_neg c, h k hk']
  by_cases c2 : k ≤ j
  ·rw [dif_pos c2, dif_pos (by omega)]
  ·rw [dif_neg c2, dif_neg (by omega)]
def ShI {α : Type} (A X : List α) (j : Nat) : Prop := X.length = A.length ∧ ∀ k (h1 : k < X.length) (h2 : k < A.length), X[k] = if h0 : k ≤ j then A[k] else A[k - 1]'(by omega)
theorem loop_down {A R : Type} {b : A → Option (A ⊕ R)} (at' : Nat) (I : Nat → A → Prop) (Q : R → Prop) (hs : ∀ j a, at' < j → I j a → ∃ a', b a = some (.inl a') ∧ I (j - 1) a') (he : ∀ a, I at' a → ∃ r, b a = some (.inr r) ∧ Q r) (j : Nat) (hj : at' ≤ j) (a : A) (ha : I j a) : ∃ r, loopO b a = some r ∧ Q r := by
 obtain ⟨k, rfl⟩ : ∃ k, j = at' + k := ⟨j - at', by omega⟩
 induction k generalizing a with
 | zero => obtain ⟨r, h1, h2⟩ := he a ha; exact ⟨r, loopO_done h1, h2⟩
 | succ k ih =>
  obtain ⟨a', h1, h2⟩ := hs (at' + (k + 1)) a (by omega) ha
  obtain ⟨r, h3, h4⟩ := ih a' (by omega) (by simpa using h2)
  exact ⟨r, (loopO_step h1).trans h3, h4⟩
theorem ShI.step {α : Type} {A X : List α} {j : Nat} (h : ShI A X j) (hj : j < X.length) (hj0 : 0 < j) : ShI A (X.set j (X[j - 1]'(by omega))) (j - 1) := by
 obtain ⟨h1, h2⟩ := h
 refine ⟨by rw [List.length_set]; exact h1, fun k k1 k2 => ?_⟩
 exact shift_step h1 hj hj0 (fun k hk => h2 k hk (by omega)) k k1
theorem w_pred {j : Nat} (h : 0 < j) (hn : j ≤ 9223372036854775807) : IntKind.i64.wrap ((j : Int) - 1) = ((j - 1 : Nat) : Int) := by rw [wrap64 (by omega) (by omega)]; omega
theorem shift3 (at' : Nat) (A : List Ed) (B : List (Int × Int)) (h0 : 0 < A.length) (hAB : A.length = B.length) (hl : A.length ≤ 1000000) (ha : at' < A.length) : ∃ X Y, loopO (ref05_Combine_b3 (at' : Int)) (A, B, ((A.length - 1 : Nat) : Int)) = some (.inl (X, Y)) ∧ ShI A X at' ∧ ShI B Y at' := by
 obtain ⟨r, h1, X, Y, rfl, h2, h3⟩ := loop_down (b := ref05_Combine_b3 (at' : Int)) at' (fun j a => ∃ X Y, a = (X, Y, (j : Int)) ∧ j < A.length ∧ ShI A X j ∧ ShI B Y j) (fun r => ∃ X Y, r = .inl (X, Y) ∧ ShI A X at' ∧ ShI B Y at')
  (by
   rintro j _ hj ⟨X, Y, rfl, hjA, hX, hY⟩
   have e1 := hX.1
   have e2 := hY.1
   simp only [ref05_Combine_b3]
   rw [if_pos (by omega), w_pred (by omega) (by omega), mo_at (show j - 1 < X.length by omega), mo_at (show j < X.length by omega), mo_at (show j - 1 < Y.length by omega), mo_at (show j < Y.length by omega)]
   exact ⟨_, rfl, _, _, rfl, by omega, hX.step (by omega) (by omega), hY.step (by omega) (by omega)⟩)
  (by
   rintro _ ⟨X, Y, rfl, hjA, hX, hY⟩
   exact ⟨_, if_neg (by omega), X, Y, rfl, hX, hY⟩) (A.length - 1) (by omega) (A, B, ((A.length - 1 : Nat) : Int)) ⟨A, B, rfl, by omega, ⟨rfl, fun k k1 k2 => by rw [dif_pos (by omega)]⟩, ⟨rfl, fun k k1 k2 => by rw [dif_pos (by omega)]⟩⟩
 exact ⟨X, Y, h1, h2, h3⟩
structure SumW (r : Int) (K : Ed → Prop) (P : Int × Int → Prop) : Prop where
 lo : ∀ a, P a → u64r a.2
 one : ∀ y, K y → P (ofW y.2.2)
 add : ∀ a b, P a → P b → P (ringAdd r a b)
structure CI (K : Ed → Prop) (P : Int × Int → Prop) (c : Nat) (E : List Ed) (S : List (Int × Int)) : Prop where
 len : E.length = S.length
 few : E.length ≤ c
 rise : Rises E
 ends : ∀ x ∈ E, ∃ y, K y ∧ x.1 = y.1 ∧ x.2.1 = y.2.1
 lo : ∀ x ∈ S, P x
theorem below_keys {a b a' b' : Ed} (h1 : a.1 = a'.1) (h2 : a.2.1 = a'.2.1) (h3 : b.1 = b'.1) (h4 : b.2.1 = b'.2.1) : belowB a b = belowB a' b' := by unfold belowB; rw [h1, h2, h3, h4]
theorem CI.ins {K : Ed → Prop} {P : Int × Int → Prop} {c : Nat} {E : List Ed} {S : List (Int × Int)} (h : CI K P c E S) {e : Ed} (he : K e) {i : Nat} (hi : i ≤ E.length) (hb : ∀ k (hk : k < E.length), k < i → belowB E[k] e = true) (ha : ∀ (hk : i < E.length), belowB e E[i] = true) {s : Int × Int} (hs : P s) (w : Int) : CI K P (c + 1) (insAt E i (e.1, e.2.1, w)) (insAt S i s) := by
 have hiS : i ≤ S.length := by rw [← h.len]; exact hi
 refine ⟨by rw [insAt_len hi, insAt_len hiS, h.len], by rw [insAt_len hi]; have := h.few; omega, fun a b h1 h2 hab => ?_, fun x hx => ?_, fun x hx => ?_⟩
 ·have hla := h1
  have hlb := h2
  rw [insAt_len hi] at hla hlb
  rw [insAt_get hi, insAt_get hi]
  have hafter : ∀ k (hk : k < E.length), i ≤ k → belowB e E[k] = true := fun k hk hik => by
   by_cases c : k = i
   ·subst c; exact ha hk
   ·exact below_trans (ha (by omega)) (h.rise i k (by omega) hk (by omega))
  by_cases c1 : a < i
  ·rw [dif_pos c1]
   by_cases c2 : b < i
   ·rw [dif_pos c2]; exact h.rise a b (by omega) (by omega) hab
   ·rw [dif_neg c2]
    by_cases c3 : b = i
    ·rw [dif_pos c3]; exact (below_keys (a := E[a]) (b := (e.1, e.2.1, w)) (a' := E[a]) (b' := e) rfl rfl rfl rfl).trans (hb a (by omega) c1)
    ·rw [dif_neg c3]; exact h.rise a (b - 1) (by omega) (by omega) (by omega)
  ·rw [dif_neg c1, dif_neg (show ¬ b < i by omega), dif_neg (show ¬ b = i by omega)]
   by_cases c3 : a = i
   ·rw [dif_pos c3]; exact (below_keys (a := (e.1, e.2.1, w)) (b := E[b - 1]) (a' := e) (b' := E[b - 1]) rfl rfl rfl rfl).trans (hafter (b - 1) (by omega) (by omega))
   ·rw [dif_neg c3]; exact h.rise (a - 1) (b - 1) (by omega) (by omega) (by omega)
 ·unfold insAt at hx
  rcases List.mem_append.1 hx with hx | hx
  ·exact h.ends x (List.mem_of_mem_take hx)
  ·rcases List.mem_cons.1 hx with rfl | hx
   ·exact ⟨e, he, rfl, rfl⟩
   ·exact h.ends x (List.mem_of_mem_drop hx)
 ·unfold insAt at hx
  rcases List.mem_append.1 hx with hx | hx
  ·exact h.lo x (List.mem_of_mem_take hx)
  ·rcases List.mem_cons.1 hx with rfl | hx
   ·exact hs
   ·exact h.lo x (List.mem_of_mem_drop hx)
theorem place2 (s : Sl Ed) (E : List Ed) (j : Nat) (hok : okS 3 s) (hj : j < s.l.length) (hE : E.length ≤ 1000000) : ∃ i : Nat, i ≤ E.length ∧ loopO (ref05_Combine_b2 s E (j : Int)) 0 = some (.inl (i : Int)) ∧ (∀ k (hk : k < E.length), k < i → belowB E[k] s.l[j] = true) ∧ (∀ hk : i < E.length, belowB E[i] s.l[j] = false) := by
 obtain ⟨r, h1, i, rfl, h2⟩ := loop_up (b := ref05_Combine_b2 s E (j : Int)) E.length (fun i a => a = (i : Int) ∧ ∀ k (hk : k < E.length), k < i → belowB E[k] s.l[j] = true) (fun r => ∃ i : Nat, r = .inl (i : Int) ∧ i ≤ E.length ∧ (∀ k (hk : k < E.length), k < i → belowB E[k] s.l[j] = true) ∧ (∀ hk : i < E.length, belowB E[i] s.l[j] = false))
  (by
   rintro i _ hi ⟨rfl, ha⟩
   simp only [ref05_Combine_b2, mo_at hi, at_get hok hj, Option.bind_some, below_eq, w_succ hi (by omega)]
   rw [if_pos (by omega)]
   cases c : belowB E[i] s.l[j] with
   | true =>
    refine .inl ⟨_, if_pos rfl, rfl, fun k hk hki => ?_⟩
    by_cases e : k = i
    ·subst e; exact c
    ·exact ha k hk (by omega)
   | false =>
    exact .inr ⟨_, if_neg (by simp), i, rfl, by omega, ha, fun _ => c⟩)
  (by
   rintro _ ⟨rfl, ha⟩
   exact ⟨_, if_neg (by omega), _, rfl, Nat.le_refl _, ha, fun hk => absurd hk (by omega)⟩) 0 (Nat.zero_le _) 0 ⟨rfl, fun k _ h => absurd h (by omega)⟩
 exact ⟨i, h2.1, h1, h2.2⟩
theorem comb_loop (r : Int) (s : Sl Ed) (hok : okS 3 s) (hl : s.l.length ≤ 5000) (K : Ed → Prop) (P : Int × Int → Prop) (hP : SumW r K P) (hK : ∀ x ∈ s.l, K x) : ∃ E S, loopO (ref05_Combine_b1 r s) ([], [], 0) = some (.inl (E, S)) ∧ CI K P s.l.length E S := by
 obtain ⟨q, h1, E, S, rfl, h2⟩ := loop_up (b := ref05_Combine_b1 r s) s.l.length (fun j a => ∃ E S, a = (E, S, (j : Int)) ∧ CI K P j E S) (fun q => ∃ E S, q = .inl (E, S) ∧ CI K P s.l.length E S)
  (by
   rintro j _ hj ⟨E, S, rfl, hI⟩
   have hfew := hI.few
   have hlen := hI.len
   obtain ⟨i, hi, hp, hb, hnb⟩ := place2 s E j hok hj (by omega)
   have hKj : K s.l[j] := hK _ (List.getElem_mem hj)
   simp only [ref05_Combine_b1, hp, at_get hok hj, Option.bind_some, Sum.elim_inl, ref01_Of_eq, w_succ hj (by omega)]
   rw [if_pos (by omega)]
   have happ1 : app E ([(0, 0, 0)] : List Ed) = some (E ++ [(0, 0, 0)]) := app_ok (by simp; unfold bound; omega)
   have happ2 : app S ([(0, 0)] : List (Int × Int)) = some (S ++ [(0, 0)]) := app_ok (by simp; unfold bound; omega)
   have hW : IntKind.i64.wrap ((((E ++ ([(0, 0, 0)] : List Ed)).length : Nat) : Int) - 1) = (((E ++ ([(0, 0, 0)] : List Ed)).length - 1 : Nat) : Int) := w_pred (by simp) (by simp; omega)
   have hins : (∀ hk : i < E.length, belowB s.l[j] E[i] = true) → ∃ X Y, ShI (E ++ [(0, 0, 0)]) X i ∧ ShI (S ++ [(0, 0)]) Y i ∧ i < X.length ∧ i < Y.length ∧ loopO (ref05_Combine_b3 (i : Int)) (E ++ [(0, 0, 0)], S ++ [(0, 0)], (((E ++ ([(0, 0, 0)] : List Ed)).length - 1 : Nat) : Int)) = some (.inl (X, Y)) ∧ loopO (ref05_Combine_b4 (i : Int)) (E ++ [(0, 0, 0)], S ++ [(0, 0)], (((E ++ ([(0, 0, 0)] : List Ed)).length - 1 : Nat) : Int)) = some (.inl (X, Y)) ∧ CI K P (j + 1) (X.set i (s.l[j].1, s.l[j].2.1, 0)) (Y.set i (ofW s.l[j].2.2)) := fun hab => by
    obtain ⟨X, Y, g1, g2, g3⟩ := shift3 i (E ++ [(0, 0, 0)]) (S ++ [(0, 0)]) (by simp) (by simp [hlen]) (by simp; omega) (by simp; omega)
    have lX : X.length = E.length + 1 := by rw [g2.1]; simp
    have lY : Y.length = S.length + 1 := by rw [g3.1]; simp
    refine ⟨X, Y, g2, g3, by omega, by omega, g1, g1, ?_⟩
    rw [shift_end (l := E) (z := (0, 0, 0)) hi lX (fun k hk => g2.2 k hk (by simp; omega)), shift_end (l := S) (z := (0, 0)) (by omega) lY (fun k hk => g3.2 k hk (by simp; omega))]
    exact hI.ins hKj hi hb hab (hP.one _ hKj) 0
   by_cases c : (i : Int) < (E.length : Int)
   ·rw [if_pos c]
    have ci : i < E.length := by omega
    simp only [mo_at ci, Option.bind_some, below_eq]
    cases c2 : belowB s.l[j] E[i] with
    | true =>
     have c' : belowB (s.l[j].1, s.l[j].2.1, s.l[j].2.2) (E[i].1, E[i].2.1, E[i].2.2) = true := c2
     obtain ⟨X, Y, g1, g2, g3, g4, g5, g6, g7⟩ := hins fun _ => c2
     simp only [c', if_true, happ1, happ2, Option.bind_some, hW, g5, Sum.elim_inl, mo_at g3, mo_at g4, Int.toNat_natCast]
     exact .inl ⟨_, rfl, _, _, rfl, g7⟩
    | false =>
     have c' : belowB (s.l[j].1, s.l[j].2.1, s.l[j].2.2) (E[i].1, E[i].2.1, E[i].2.2) = false := c2
     have cS : i < S.length := by omega
     simp only [c', Bool.false_eq_true, if_false, mo_at cS, Option.bind_some, ref02_Add_eq, Int.toNat_natCast]
     refine .inl ⟨_, rfl, _, _, rfl, ?_⟩
     refine ⟨by rw [List.length_set]; exact hI.len, by omega, hI.rise, hI.ends, fun x hx => ?_⟩
     rcases List.mem_or_eq_of_mem_set hx with hx | rfl
     ·exact hI.lo x hx
     ·exact hP.add _ _ (hI.lo _ (List.getElem_mem cS)) (hP.one _ hKj)
   ·rw [if_neg c]
    obtain ⟨X, Y, g1, g2, g3, g4, g5, g6, g7⟩ := hins fun hk => absurd hk (by omega)
    simp only [happ1, happ2, Option.bind_some, hW, g6, Sum.elim_inl, mo_at g3, mo_at g4, Int.toNat_natCast]
    exact .inl ⟨_, rfl, _, _, rfl, g7⟩)
  (by
   rintro _ ⟨E, S, rfl, hI⟩
   exact ⟨_, if_neg (by omega), E, S, rfl, hI⟩) 0 (Nat.zero_le _) ([], [], 0) ⟨[], [], rfl, ⟨rfl, Nat.le_refl _, fun i j hi => absurd hi (by simp), fun x hx => by simp at hx, fun x hx => by simp at hx⟩⟩
 exact ⟨E, S, h1, h2⟩
end Ev
end Go.Proofs.YtnikcjnkcjondaaDoor
end
