/- The law of sums: its walk. -/
import Derived.Test.YtekkgidoblddfaaDoorRRRingLaw
import Derived.Test.YtekkgidoblddfaaDoorRRRingSp
import Derived.Test.YtekkgidoblddfaaDoorRRRingMath2
import Derived.Test.YtekkgidoblddfaaDoorRRWide5
import Derived.Test.YtekkgidoblddfaaDoorRRAllocs
namespace Go.Proofs.YtekkgidoblddfaaDoorRR
open Go.RowKit Go.Sort
set_option linter.unusedVariables false

def dst3 : Nat → Option Tmp := fun k => if k = 15 then some 5 else if k = 16 then some 6 else some 7
attribute [local irreducible] hi lo sv nv nb cmp mulR addR zeroR oneR valR facR isR lsr

set_option maxRecDepth 100000 in
set_option maxHeartbeats 4000000 in
theorem smA (r n0 n1 n2 a b c z0 s t u : Int) (w : World) (hN : Hid (Names w)) (hr : Hid (r = 1 ∨ r = 2 ∨ r = 3 ∨ r = 4 ∨ r = 5)) (h5 : (r == 5) = false)
    (EA : Hid (a = valR r n0)) (EB : Hid (b = valR r n1)) (EC : Hid (c = valR r n2)) (a1 : -9223372036854775808 ≤ a) (a2 : a ≤ 9223372036854775807) (b1 : -9223372036854775808 ≤ b) (b2 : b ≤ 9223372036854775807) (c1 : -9223372036854775808 ≤ c) (c2 : c ≤ 9223372036854775807)
    (z01 : -9223372036854775808 ≤ z0) (z02 : z0 ≤ 9223372036854775807) (Z : Hid (z0 = zeroR r)) (ES : Hid (s = addR r a b)) (EC2 : Hid (s = addR r b a)) (ET : Hid (t = addR r s c)) (EU : Hid (u = addR r b c)) (ET2 : Hid (t = addR r a u)) (EZ : Hid (a = addR r a z0)) (EIS : Hid (true = isR r))
    (v : Int) (EV : Hid (v = nv s)) (EO : Hid (true = nb s)) (EI : Hid (a = addR r a a)) (hR : Hid (∀ w : World, Calls Tryd.prog 13 #[.int .i64 r, .int .i64 v] w fun e w' => e = .returned (.bool true) ∧ Below w.heap.size w w')) :
    Calls Tryd.prog 3 #[.int .i64 r, .agg #[.int .i64 n0, .int .i64 n1, .int .i64 n2]] w fun e w' => e = .returned (.bool true) ∧ Below w.heap.size w w' := by
  go_enter Tryd.func3, Tryd.ntmps3
  go_wp2_with fail
  refine (rref_is r true _ EIS.out).mono ?_
  rintro e w1 ⟨rfl, hb1⟩; obtain ⟨⟨d1, o1⟩, rfl⟩ := regrown_of_below hb1; clear hb1
  go_wp2_with fail
  refine wp_region_allocs 15 18 [15, 16, 17] dst3 (fun _ => .cells #[.int .i64 0, .int .u64 0] 28) (by kernel_rfl) (gr_one _) (by decide)
    (by intro k hk; simp only [List.mem_cons, List.not_mem_nil, or_false] at hk; rcases hk with rfl | rfl | rfl <;> exact ⟨by decide, _, rfl, rfl, rfl, rfl, by kernel_rfl, fun _ _ => by go_simp⟩) rfl (by kernel_rfl) ?_
  simp only [List.take_succ_cons, List.take_zero, List.drop_succ_cons, List.drop_zero]
  repeat (refine wpFirm_step (fun K hK => ?_); go_simp; first
    | (refine hK _ ?_; clear hK K)
    | (apply Exists.intro; refine ⟨fun _ => ?_, hK _ ?_⟩; (first
      | (go_at_call 9; exact Calls.firm (rvalue_e r n0 _ a _ hr.out rfl EA.out))
      | (go_at_call 9; exact Calls.firm (rvalue_e r n1 _ b _ hr.out rfl EB.out))
      | (go_at_call 9; exact Calls.firm (rvalue_e r n2 _ c _ hr.out rfl EC.out))
      | (go_at_call 8; exact Calls.firm (rof_e a _ _ a1 a2 rfl))
      | (go_at_call 8; exact Calls.firm (rof_e b _ _ b1 b2 rfl))
      | (go_at_call 8; exact Calls.firm (rof_e c _ _ c1 c2 rfl))); clear hK K))
  refine wpFirm_nil ?_
  intro β w' hg hh hsome
  obtain ⟨pa, e15⟩ := Option.ne_none_iff_exists'.1 (hsome 15 (by simp))
  obtain ⟨pb, e16⟩ := Option.ne_none_iff_exists'.1 (hsome 16 (by simp))
  obtain ⟨pc, e17⟩ := Option.ne_none_iff_exists'.1 (hsome 17 (by simp))
  simp only [puts, e15, e16, e17, dst3]
  obtain ⟨sa, ha⟩ := hh.1 15 pa e15
  obtain ⟨sb, hb⟩ := hh.1 16 pb e16
  obtain ⟨sc, hc⟩ := hh.1 17 pc e17
  have nab : pa ≠ pb := fun e => by have := hh.2 15 16 pa e15 (e ▸ e16); omega
  have nac : pa ≠ pc := fun e => by have := hh.2 15 17 pa e15 (e ▸ e17); omega
  have nbc : pb ≠ pc := fun e => by have := hh.2 16 17 pb e16 (e ▸ e17); omega
  have hW : Gr w (grow (redrawn (w.alloc (Obj.cells #[Value.int IntKind.i64 n0, Value.int IntKind.i64 n1, Value.int IntKind.i64 n2] 23)) d1) o1) := Gr.of (by repeat (first | with_reducible refine blg ?_ _ _ | with_reducible refine bla ?_ _ | with_reducible exact Below.refl _ _))
  replace sa := Nat.le_trans hW.below.size sa
  replace sb := Nat.le_trans hW.below.size sb
  replace sc := Nat.le_trans hW.below.size sc
  clear hsome hh e15 e16 e17 β
  have bw := (hW.trans hg).below
  clear hg hW
  have ca0 : w'.cell? ⟨pa, 0, none⟩ = some (.int .i64 0) := by simp [World.cell?, ha]
  have ca1 : w'.cell? ⟨pa, 1, none⟩ = some (.int .u64 0) := by simp [World.cell?, ha]
  have fa : w'.frozen? ⟨pa, 0, none⟩ = false := by simp [World.frozen?, ha]
  have ga : w'.frozen? ⟨pa, 1, none⟩ = false := by simp [World.frozen?, ha]
  have cb0 : w'.cell? ⟨pb, 0, none⟩ = some (.int .i64 0) := by simp [World.cell?, hb]
  have cb1 : w'.cell? ⟨pb, 1, none⟩ = some (.int .u64 0) := by simp [World.cell?, hb]
  have fb : w'.frozen? ⟨pb, 0, none⟩ = false := by simp [World.frozen?, hb]
  have gb : w'.frozen? ⟨pb, 1, none⟩ = false := by simp [World.frozen?, hb]
  have cc0 : w'.cell? ⟨pc, 0, none⟩ = some (.int .i64 0) := by simp [World.cell?, hc]
  have cc1 : w'.cell? ⟨pc, 1, none⟩ = some (.int .u64 0) := by simp [World.cell?, hc]
  have fc : w'.frozen? ⟨pc, 0, none⟩ = false := by simp [World.frozen?, hc]
  have gc : w'.frozen? ⟨pc, 1, none⟩ = false := by simp [World.frozen?, hc]
  clear ha hb hc d1 o1
  go_wp2_with fail
  obtain ⟨V, hV⟩ : ∃ V, V = ((((((w'.setCell ⟨pa, 0, none⟩ (.int .i64 (hi a))).setCell ⟨pa, 1, none⟩ (.int .u64 (lo a))).setCell ⟨pb, 0, none⟩ (.int .i64 (hi b))).setCell ⟨pb, 1, none⟩ (.int .u64 (lo b))).setCell ⟨pc, 0, none⟩ (.int .i64 (hi c))).setCell ⟨pc, 1, none⟩ (.int .u64 (lo c))) := ⟨_, rfl⟩
  rw [← hV]
  have kV : Below w.heap.size w V := by
    rw [hV]
    exact bls (bls (bls (bls (bls (bls bw (p := ⟨pa, 0, none⟩) sa _) (p := ⟨pa, 1, none⟩) sa _) (p := ⟨pb, 0, none⟩) sb _) (p := ⟨pb, 1, none⟩) sb _) (p := ⟨pc, 0, none⟩) sc _) (p := ⟨pc, 1, none⟩) sc _
  have xa0 : V.cell? ⟨pa, 0, none⟩ = some (.int .i64 (hi a)) := by rw [hV]; go_simp
  have xa1 : V.cell? ⟨pa, 1, none⟩ = some (.int .u64 (lo a)) := by rw [hV]; go_simp
  have xb0 : V.cell? ⟨pb, 0, none⟩ = some (.int .i64 (hi b)) := by rw [hV]; go_simp
  have xb1 : V.cell? ⟨pb, 1, none⟩ = some (.int .u64 (lo b)) := by rw [hV]; go_simp
  have xc0 : V.cell? ⟨pc, 0, none⟩ = some (.int .i64 (hi c)) := by rw [hV]; go_simp
  have xc1 : V.cell? ⟨pc, 1, none⟩ = some (.int .u64 (lo c)) := by rw [hV]; go_simp
  have ya : Has V pa := Has.of (block_lt_of_cell xa0)
  have yb : Has V pb := Has.of (block_lt_of_cell xb0)
  have yc : Has V pc := Has.of (block_lt_of_cell xc0)
  clear hV ca0 ca1 fa ga cb0 cb1 fb gb cc0 cc1 fc gc nab nac nbc bw sa sb sc
  refine (rzero_to r z0 _ hr.out Z.out).mono ?_
  rintro e w1 ⟨rfl, hb1⟩; obtain ⟨⟨dd11, oo11⟩, rfl⟩ := regrown_of_below hb1; clear hb1
  go_wp2_with fail
  refine (rof_e z0 _ _ z01 z02 rfl).mono ?_
  rintro e w1 ⟨rfl, hb1⟩; obtain ⟨⟨dd12, oo12⟩, rfl⟩ := regrown_of_below hb1; clear hb1
  go_wp2_with fail
  refine (radd_to r a b s _ _ _ _ _ rfl rfl rfl rfl ES.out).mono ?_
  rintro e w1 ⟨rfl, hb1⟩; obtain ⟨⟨dd13, oo13⟩, rfl⟩ := regrown_of_below hb1; clear hb1
  go_wp2_with fail
  refine (rnarrow_e r s _ _ v true _ rfl rfl EV.out EO.out).mono ?_
  rintro e w1 ⟨rfl, hb1⟩; obtain ⟨⟨dd14, oo14⟩, rfl⟩ := regrown_of_below hb1; clear hb1
  go_wp2_with fail
  refine wp_region_grown' (by kernel_rfl) (by kernel_rfl) ?_
  repeat (go_big_quiet_step (first
    | (go_at_call 7; exact Calls.regrown_of (live2_any _ (hN.out.grown (by repeat (first | with_reducible refine blg ?_ _ _ | with_reducible refine bla ?_ _ | with_reducible exact kV)))))
    | (go_at_call 11; exact Calls.regrown_of (radd_to r b a s _ _ _ _ _ rfl rfl rfl rfl EC2.out))
    | (go_at_call 11; exact Calls.regrown_of (radd_to r s c t _ _ _ _ _ rfl rfl rfl rfl ET.out))
    | (go_at_call 11; exact Calls.regrown_of (radd_to r b c u _ _ _ _ _ rfl rfl rfl rfl EU.out))
    | (go_at_call 11; exact Calls.regrown_of (radd_to r a u t _ _ _ _ _ rfl rfl rfl rfl ET2.out))
    | (go_at_call 11; exact Calls.regrown_of (radd_to r a z0 a _ _ _ _ _ rfl rfl rfl rfl EZ.out))
    | (go_at_call 11; exact Calls.regrown_of (radd_to r a a a _ _ _ _ _ rfl rfl rfl rfl EI.out))
    | (go_at_call 13; exact Calls.regrown_of (hR.out _))))
  refine wpQuiet_nil ?_
  rintro _ ⟨⟨d9, o9⟩, rfl⟩
  go_wp2
  go_ret
  exact ⟨rfl, (by repeat (first | with_reducible refine blg ?_ _ _ | with_reducible refine bla ?_ _ | with_reducible exact kV))⟩

set_option maxRecDepth 100000 in
set_option maxHeartbeats 4000000 in
theorem smE (r n0 n1 n2 a b c z0 s t u : Int) (w : World) (hN : Hid (Names w)) (hr : Hid (r = 1 ∨ r = 2 ∨ r = 3 ∨ r = 4 ∨ r = 5)) (h5 : (r == 5) = true)
    (EA : Hid (a = valR r n0)) (EB : Hid (b = valR r n1)) (EC : Hid (c = valR r n2)) (a1 : -9223372036854775808 ≤ a) (a2 : a ≤ 9223372036854775807) (b1 : -9223372036854775808 ≤ b) (b2 : b ≤ 9223372036854775807) (c1 : -9223372036854775808 ≤ c) (c2 : c ≤ 9223372036854775807)
    (z01 : -9223372036854775808 ≤ z0) (z02 : z0 ≤ 9223372036854775807) (Z : Hid (z0 = zeroR r)) (ES : Hid (s = addR r a b)) (EC2 : Hid (s = addR r b a)) (ET : Hid (t = addR r s c)) (EU : Hid (u = addR r b c)) (ET2 : Hid (t = addR r a u)) (EZ : Hid (a = addR r a z0)) (EIS : Hid (true = isR r))
    (v : Int) (fv : Bool) (EV : Hid (v = nv s)) (EO : Hid (fv = nb s)) :
    Calls Tryd.prog 3 #[.int .i64 r, .agg #[.int .i64 n0, .int .i64 n1, .int .i64 n2]] w fun e w' => e = .returned (.bool true) ∧ Below w.heap.size w w' := by
  go_enter Tryd.func3, Tryd.ntmps3
  go_wp2_with fail
  refine (rref_is r true _ EIS.out).mono ?_
  rintro e w1 ⟨rfl, hb1⟩; obtain ⟨⟨d1, o1⟩, rfl⟩ := regrown_of_below hb1; clear hb1
  go_wp2_with fail
  refine wp_region_allocs 15 18 [15, 16, 17] dst3 (fun _ => .cells #[.int .i64 0, .int .u64 0] 28) (by kernel_rfl) (gr_one _) (by decide)
    (by intro k hk; simp only [List.mem_cons, List.not_mem_nil, or_false] at hk; rcases hk with rfl | rfl | rfl <;> exact ⟨by decide, _, rfl, rfl, rfl, rfl, by kernel_rfl, fun _ _ => by go_simp⟩) rfl (by kernel_rfl) ?_
  simp only [List.take_succ_cons, List.take_zero, List.drop_succ_cons, List.drop_zero]
  repeat (refine wpFirm_step (fun K hK => ?_); go_simp; first
    | (refine hK _ ?_; clear hK K)
    | (apply Exists.intro; refine ⟨fun _ => ?_, hK _ ?_⟩; (first
      | (go_at_call 9; exact Calls.firm (rvalue_e r n0 _ a _ hr.out rfl EA.out))
      | (go_at_call 9; exact Calls.firm (rvalue_e r n1 _ b _ hr.out rfl EB.out))
      | (go_at_call 9; exact Calls.firm (rvalue_e r n2 _ c _ hr.out rfl EC.out))
      | (go_at_call 8; exact Calls.firm (rof_e a _ _ a1 a2 rfl))
      | (go_at_call 8; exact Calls.firm (rof_e b _ _ b1 b2 rfl))
      | (go_at_call 8; exact Calls.firm (rof_e c _ _ c1 c2 rfl))); clear hK K))
  refine wpFirm_nil ?_
  intro β w' hg hh hsome
  obtain ⟨pa, e15⟩ := Option.ne_none_iff_exists'.1 (hsome 15 (by simp))
  obtain ⟨pb, e16⟩ := Option.ne_none_iff_exists'.1 (hsome 16 (by simp))
  obtain ⟨pc, e17⟩ := Option.ne_none_iff_exists'.1 (hsome 17 (by simp))
  simp only [puts, e15, e16, e17, dst3]
  obtain ⟨sa, ha⟩ := hh.1 15 pa e15
  obtain ⟨sb, hb⟩ := hh.1 16 pb e16
  obtain ⟨sc, hc⟩ := hh.1 17 pc e17
  have nab : pa ≠ pb := fun e => by have := hh.2 15 16 pa e15 (e ▸ e16); omega
  have nac : pa ≠ pc := fun e => by have := hh.2 15 17 pa e15 (e ▸ e17); omega
  have nbc : pb ≠ pc := fun e => by have := hh.2 16 17 pb e16 (e ▸ e17); omega
  have hW : Gr w (grow (redrawn (w.alloc (Obj.cells #[Value.int IntKind.i64 n0, Value.int IntKind.i64 n1, Value.int IntKind.i64 n2] 23)) d1) o1) := Gr.of (by repeat (first | with_reducible refine blg ?_ _ _ | with_reducible refine bla ?_ _ | with_reducible exact Below.refl _ _))
  replace sa := Nat.le_trans hW.below.size sa
  replace sb := Nat.le_trans hW.below.size sb
  replace sc := Nat.le_trans hW.below.size sc
  clear hsome hh e15 e16 e17 β
  have bw := (hW.trans hg).below
  clear hg hW
  have ca0 : w'.cell? ⟨pa, 0, none⟩ = some (.int .i64 0) := by simp [World.cell?, ha]
  have ca1 : w'.cell? ⟨pa, 1, none⟩ = some (.int .u64 0) := by simp [World.cell?, ha]
  have fa : w'.frozen? ⟨pa, 0, none⟩ = false := by simp [World.frozen?, ha]
  have ga : w'.frozen? ⟨pa, 1, none⟩ = false := by simp [World.frozen?, ha]
  have cb0 : w'.cell? ⟨pb, 0, none⟩ = some (.int .i64 0) := by simp [World.cell?, hb]
  have cb1 : w'.cell? ⟨pb, 1, none⟩ = some (.int .u64 0) := by simp [World.cell?, hb]
  have fb : w'.frozen? ⟨pb, 0, none⟩ = false := by simp [World.frozen?, hb]
  have gb : w'.frozen? ⟨pb, 1, none⟩ = false := by simp [World.frozen?, hb]
  have cc0 : w'.cell? ⟨pc, 0, none⟩ = some (.int .i64 0) := by simp [World.cell?, hc]
  have cc1 : w'.cell? ⟨pc, 1, none⟩ = some (.int .u64 0) := by simp [World.cell?, hc]
  have fc : w'.frozen? ⟨pc, 0, none⟩ = false := by simp [World.frozen?, hc]
  have gc : w'.frozen? ⟨pc, 1, none⟩ = false := by simp [World.frozen?, hc]
  clear ha hb hc d1 o1
  go_wp2_with fail
  obtain ⟨V, hV⟩ : ∃ V, V = ((((((w'.setCell ⟨pa, 0, none⟩ (.int .i64 (hi a))).setCell ⟨pa, 1, none⟩ (.int .u64 (lo a))).setCell ⟨pb, 0, none⟩ (.int .i64 (hi b))).setCell ⟨pb, 1, none⟩ (.int .u64 (lo b))).setCell ⟨pc, 0, none⟩ (.int .i64 (hi c))).setCell ⟨pc, 1, none⟩ (.int .u64 (lo c))) := ⟨_, rfl⟩
  rw [← hV]
  have kV : Below w.heap.size w V := by
    rw [hV]
    exact bls (bls (bls (bls (bls (bls bw (p := ⟨pa, 0, none⟩) sa _) (p := ⟨pa, 1, none⟩) sa _) (p := ⟨pb, 0, none⟩) sb _) (p := ⟨pb, 1, none⟩) sb _) (p := ⟨pc, 0, none⟩) sc _) (p := ⟨pc, 1, none⟩) sc _
  have xa0 : V.cell? ⟨pa, 0, none⟩ = some (.int .i64 (hi a)) := by rw [hV]; go_simp
  have xa1 : V.cell? ⟨pa, 1, none⟩ = some (.int .u64 (lo a)) := by rw [hV]; go_simp
  have xb0 : V.cell? ⟨pb, 0, none⟩ = some (.int .i64 (hi b)) := by rw [hV]; go_simp
  have xb1 : V.cell? ⟨pb, 1, none⟩ = some (.int .u64 (lo b)) := by rw [hV]; go_simp
  have xc0 : V.cell? ⟨pc, 0, none⟩ = some (.int .i64 (hi c)) := by rw [hV]; go_simp
  have xc1 : V.cell? ⟨pc, 1, none⟩ = some (.int .u64 (lo c)) := by rw [hV]; go_simp
  have ya : Has V pa := Has.of (block_lt_of_cell xa0)
  have yb : Has V pb := Has.of (block_lt_of_cell xb0)
  have yc : Has V pc := Has.of (block_lt_of_cell xc0)
  clear hV ca0 ca1 fa ga cb0 cb1 fb gb cc0 cc1 fc gc nab nac nbc bw sa sb sc
  refine (rzero_to r z0 _ hr.out Z.out).mono ?_
  rintro e w1 ⟨rfl, hb1⟩; obtain ⟨⟨dd11, oo11⟩, rfl⟩ := regrown_of_below hb1; clear hb1
  go_wp2_with fail
  refine (rof_e z0 _ _ z01 z02 rfl).mono ?_
  rintro e w1 ⟨rfl, hb1⟩; obtain ⟨⟨dd12, oo12⟩, rfl⟩ := regrown_of_below hb1; clear hb1
  go_wp2_with fail
  refine (radd_to r a b s _ _ _ _ _ rfl rfl rfl rfl ES.out).mono ?_
  rintro e w1 ⟨rfl, hb1⟩; obtain ⟨⟨dd13, oo13⟩, rfl⟩ := regrown_of_below hb1; clear hb1
  go_wp2_with fail
  refine (rnarrow_e r s _ _ v fv _ rfl rfl EV.out EO.out).mono ?_
  rintro e w1 ⟨rfl, hb1⟩; obtain ⟨⟨dd14, oo14⟩, rfl⟩ := regrown_of_below hb1; clear hb1
  go_wp2_with fail
  refine wp_region_grown' (by kernel_rfl) (by kernel_rfl) ?_
  repeat (go_big_quiet_step (first
    | (go_at_call 7; exact Calls.regrown_of (live2_any _ (hN.out.grown (by repeat (first | with_reducible refine blg ?_ _ _ | with_reducible refine bla ?_ _ | with_reducible exact kV)))))
    | (go_at_call 11; exact Calls.regrown_of (radd_to r b a s _ _ _ _ _ rfl rfl rfl rfl EC2.out))
    | (go_at_call 11; exact Calls.regrown_of (radd_to r s c t _ _ _ _ _ rfl rfl rfl rfl ET.out))
    | (go_at_call 11; exact Calls.regrown_of (radd_to r b c u _ _ _ _ _ rfl rfl rfl rfl EU.out))
    | (go_at_call 11; exact Calls.regrown_of (radd_to r a u t _ _ _ _ _ rfl rfl rfl rfl ET2.out))
    | (go_at_call 11; exact Calls.regrown_of (radd_to r a z0 a _ _ _ _ _ rfl rfl rfl rfl EZ.out))))
  refine wpQuiet_nil ?_
  rintro _ ⟨⟨d9, o9⟩, rfl⟩
  go_wp2
  go_ret
  exact ⟨rfl, (by repeat (first | with_reducible refine blg ?_ _ _ | with_reducible refine bla ?_ _ | with_reducible exact kV))⟩
end Go.Proofs.YtekkgidoblddfaaDoorRR
