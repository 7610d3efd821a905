/- SUMS OF PRODUCTS ARE EXACT, IN WHATEVER ORDER: the walk. -/
import Derived.Test.YtekkgidoblddfaaTopEx
import Derived.Test.YtekkgidoblddfaaRingLaw
import Derived.Test.YtekkgidoblddfaaRingMath2
import Derived.Test.YtekkgidoblddfaaAlloc
namespace Go.Proofs.Ytekkgidoblddfaa
open Go.RowKit Go.Sort
set_option linter.unusedVariables false

def prodL (f g : Nat → Int) (k : Nat) : List Int := (List.range k).map fun i => facR 5 (f i) * g i
theorem prodL_succ (f g : Nat → Int) (k : Nat) : prodL f g (k + 1) = prodL f g k ++ [facR 5 (f k) * g k] := by simp [prodL, List.range_succ]
theorem prodL_len (f g : Nat → Int) (k : Nat) : (prodL f g k).length = k := by simp [prodL]

theorem tmul5 (a x z : Int) (w : World) (a1 : -9223372036854775808 ≤ a) (a2 : a ≤ 9223372036854775807) (x1 : -9223372036854775808 ≤ x) (x2 : x ≤ 9223372036854775807) (ez : z = a * x) :
    Calls Try.prog 28 #[.int .i64 5, .int .i64 a, .int .i64 x] w fun e w' => e = .returned (W z) ∧ Below w.heap.size w w' := by
  subst ez; exact ringMul_any 5 a x w a1 a2 x1 x2
theorem tadd5 (x y z : Int) (w : World) (ez : z = x + y) :
    Calls Try.prog 30 #[.int .i64 5, W x, W y] w fun e w' => e = .returned (W z) ∧ Below w.heap.size w w' := by
  subst ez; exact ringAdd_any 5 x y w
theorem tfac5 (n v : Int) (w : World) (ev : v = facR 5 n) :
    Calls Try.prog 29 #[.int .i64 5, .int .i64 n] w fun e w' => e = .returned (.int .i64 v) ∧ Below w.heap.size w w' := by
  subst ev; exact (factor_in 5 n w (by decide)).mono fun _ _ ⟨he, hw⟩ => ⟨he, by rw [hw]; exact Below.refl _ _⟩
theorem tsub_e (x y z : Int) (w : World) (ez : z = x - y) :
    Calls Try.prog 20 #[W x, W y] w fun e w' => e = .returned (W z) ∧ Below w.heap.size w w' := by
  subst ez; exact sub_any x y w
theorem tfac_bd (n : Int) (n1 : -9223372036854775808 ≤ n) (n2 : n ≤ 9223372036854775807) : -9223372036854775808 ≤ facR 5 n ∧ facR 5 n ≤ 9223372036854775807 := fac_bd 5 n (by decide) n1 n2

attribute [local irreducible] hi lo addR mulR facR
/-- The lesser of two numbers, as the walk meets it. -/
def minI (x y : Int) : Int := if y < x then y else x
theorem ite_min (x y : Int) [Decidable (y < x)] : (if y < x then y else x) = minI x y := by unfold minI; split <;> simp_all
theorem ite_minN (x y : Nat) [Decidable (y < x)] : (if y < x then (y : Int) else (x : Int)) = minI x y := by unfold minI; split <;> split <;> omega
theorem minI_min (x y : Int) : minI x y = min x y := by unfold minI; omega
attribute [local irreducible] minI
attribute [local go_sem] ite_min ite_minN

set_option maxRecDepth 100000 in
set_option maxHeartbeats 2000000 in
theorem topExact_any (a x t : Option Addr) (la ca lx cx lt ct : Nat) (f g h : Nat → Int) (w : World) (ha : Rd w a la f) (hx : Rd w x lx g) (ht : Rd8 w t lt h) :
    Calls Try.prog 10 #[.slice a la ca, .slice x lx cx, .slice t lt ct] w fun e w' => e = .returned (.bool true) ∧ Below w.heap.size w w' := by
  obtain ⟨i0, hi0, hz0, hz1, hz2⟩ := info_parts infoWide
  go_enter Try.func10, Try.ntmps10
  go_wp2_with fail
  obtain ⟨N, hN⟩ : ∃ N : Nat, (N : Int) = minI (minI la lx) 60 := ⟨min (min la lx) 60, by rw [minI_min, minI_min]; omega⟩
  rw [← hN]
  have N1 : N ≤ la ∧ N ≤ lx ∧ N ≤ 60 := by rw [minI_min, minI_min] at hN; omega
  clear hN
  go_loopw [8, 9, 10] (fun vp vq z wr => ∃ k : Nat, z = .int .i64 k ∧ k ≤ N ∧ Below w.heap.size w wr ∧ wr.ownsRow w.heap.size 24 2 vp k (rowW (prodL f g k)) ∧ wr.ownsRow w.heap.size 24 2 vq k (rowW (prodL f g k)) ∧ ApartV vp vq) (fun _ _ z _ => N - (intOf z).toNat)
  case atStart =>
    exact ⟨0, rfl, by omega, Below.refl _ _, World.ownsRow_nil _ _ _ _, World.ownsRow_nil _ _ _ _, ApartV.of_none⟩
  case round =>
    obtain ⟨k, rfl, hk, hB, hp, hq, hA⟩ := hrel
    by_cases hlt : k < N
    · have hlt' : (k : Int) < (N : Int) := by omega
      have hka : (k : Int) < (la : Int) := by omega
      have hkx : (k : Int) < (lx : Int) := by omega
      have hk0 : 0 ≤ (k : Int) := by omega
      obtain ⟨ba, rfl, hba, cA0, a1, a2⟩ := ha k (by omega)
      obtain ⟨bx, rfl, hbx, cX0, x1, x2⟩ := hx k (by omega)
      have cA := (hB.cell (p := ba.add k) (by rw [blk_add]; exact hba)).trans cA0
      have cX := (hB.cell (p := bx.add k) (by rw [blk_add]; exact hbx)).trans cX0
      have kba := Has.of (Nat.lt_of_lt_of_le hba hB.size)
      have kbx := Has.of (Nat.lt_of_lt_of_le hbx hB.size)
      have fb := tfac_bd (f k) a1 a2
      obtain ⟨bs1, cap1, rfl, _⟩ := row_cells hp
      obtain ⟨bs2, cap2, rfl, _⟩ := row_cells hq
      clear cA0 cX0
      go_wp2_with fail
      refine wp_region_alloc (X := .cells #[.int .i64 0, .int .u64 0] 24) 10 (by kernel_rfl) (gr_one _) rfl rfl rfl (by kernel_rfl) (fun _ _ => by go_simp) ?_
      simp only [List.take_succ_cons, List.take_zero, List.drop_succ_cons, List.drop_zero]
      repeat (refine wpFirm_step (fun K hK => ?_); go_simp; first
        | (refine hK _ ?_; clear hK K)
        | (apply Exists.intro; refine ⟨fun _ => ?_, hK _ ?_⟩; (first
          | (go_at_call 29; exact Calls.firm (tfac5 _ _ _ rfl))
          | (go_at_call 28; exact Calls.firm (tmul5 _ _ _ _ fb.1 fb.2 x1 x2 rfl))); clear hK K))
      refine wpFirm_nil ?_
      intro d0 o0 d1 o1
      obtain ⟨bX, hbU⟩ := cellsAt_laid wr d0 d1 o0 o1 #[.int .i64 0, .int .u64 0] 24
      have hbx : wr.heap.size ≤ wr.heap.size + o0.size := by omega
      generalize wr.heap.size + o0.size = Bx at bX hbx ⊢
      generalize grow (redrawn ((grow (redrawn wr d0) o0).alloc (.cells #[.int .i64 0, .int .u64 0] 24)) d1) o1 = U at bX hbU ⊢
      have e0 := bX.cell 0
      have e1 := bX.cell 1
      have f0 := bX.frozen 0
      have f1 := bX.frozen 1
      repeat ((fail_if_success go_at_K); go_step)
      have hbV := (hbU.setCell (p := ⟨Bx, 0, none⟩) hbx (.int .i64 (hi (facR 5 (f k) * g k)))).setCell (p := ⟨Bx, 1, none⟩) hbx (.int .u64 (lo (facR 5 (f k) * g k)))
      have bV := (bX.set 0 (.int .i64 (hi (facR 5 (f k) * g k)))).set 1 (.int .u64 (lo (facR 5 (f k) * g k)))
      obtain ⟨z, hz⟩ : ∃ z, z = facR 5 (f k) * g k := ⟨_, rfl⟩
      rw [← hz] at hbV bV ⊢
      generalize (U.setCell ⟨Bx, 0, none⟩ (.int .i64 (hi z))).setCell ⟨Bx, 1, none⟩ (.int .u64 (lo z)) = V at hbV bV ⊢
      have HZ := Lib.hid hz
      clear hz bX hbU e0 e1 f0 f1 cA cX kba kbx
      have hV : Below w.heap.size w V := hB.trans (hbV.mono hB.size)
      have hp2 := row_kept hp (grownBy_below hbV none) (fun _ _ => by simp)
      have hq2 := row_kept hq (grownBy_below hbV none) (fun _ _ => by simp)
      have e0 : V.cell? ⟨Bx, 0, none⟩ = some (.int .i64 (hi z)) := bV.cell 0
      have e1 : V.cell? ⟨Bx, 1, none⟩ = some (.int .u64 (lo z)) := bV.cell 1
      have hpn : ∀ j, (Value.slice bs1 k cap1).ownBlock = some j → j ≠ Bx := fun j hj e => by have := (hp.lt j hj).2; omega
      clear hp hq hB hbV
      go_wp2_with (first
        | (refine wpList_append_own_at _ rfl _ _ 42 rfl w.heap.size 24 i0 (.agg #[.int .i64 0, .int .u64 0]) 2 16 Try.underlying42 hi0 hz0 hz1 hz2 rfl (by decide) _ _ _ rfl (hp2.alloc _) ⟨V.heap.size, 0, none⟩ 1 1 [.int .i64 (hi z), .int .u64 (lo z)] rfl rfl (cell_two_new _ _ _ _) (by simp [Value.oneCell']) (by unfold maxLen; omega) (by omega) (by have := hV.size; simp; omega) ?_; intro v' V2 hown' hgrow hnil hat; obtain ⟨g1, c1, rfl⟩ := ownsRow_succ hown'; obtain ⟨hq3, hA3⟩ := grown_first hp2 hq2 hA hown' hgrow hat; have hV2 : Below w.heap.size w V2 := hV.trans ((((Below.refl w.heap.size V).alloc hV.size _)).grown hgrow (by have := hV.size; simp; omega) (fun j e => (hp2.lt j e).1)); have bV2 := CellsAt.kept bV ((hgrow.block Bx (by have := bV.lt; simp; omega) (fun e => hpn _ e.symm rfl)).trans (Below.heap_alloc V _ Bx bV.lt)); have y0 : V2.cell? ⟨Bx, 0, none⟩ = some (.int .i64 (hi z)) := bV2.cell 0; have y1 : V2.cell? ⟨Bx, 1, none⟩ = some (.int .u64 (lo z)) := bV2.cell 1; clear bV2 hp2 hq2 hA hnil hat hgrow e0 e1)
        | (refine wpList_append_own_at _ rfl _ _ 42 rfl w.heap.size 24 i0 (.agg #[.int .i64 0, .int .u64 0]) 2 16 Try.underlying42 hi0 hz0 hz1 hz2 rfl (by decide) _ _ _ rfl (hq3.alloc _) ⟨V2.heap.size, 0, none⟩ 1 1 [.int .i64 (hi z), .int .u64 (lo z)] rfl rfl (cell_two_new _ _ _ _) (by simp [Value.oneCell']) (by unfold maxLen; omega) (by omega) (by have := hV2.size; simp; omega) ?_; intro v' V3 hown2 hgrow hnil hat; obtain ⟨g2, c2, rfl⟩ := ownsRow_succ hown2; obtain ⟨hp4, hA4⟩ := grown_second hown' hq3 hA3 hown2 hgrow hat; have hV3 : Below w.heap.size w V3 := hV2.trans ((((Below.refl w.heap.size V2).alloc hV2.size _)).grown hgrow (by have := hV2.size; simp; omega) (fun j e => (hq3.lt j e).1)); clear hq3 hA3 hown' hgrow hnil hat y0 y1))
      refine ⟨?_, by simp [intOf]; omega⟩
      rw [HZ.out] at hown2
      exact ⟨k + 1, by simp, by omega, hV3, by rw [prodL_succ, rowW_snoc]; rw [HZ.out] at hp4; exact hp4, by rw [prodL_succ, rowW_snoc]; exact hown2, hA4⟩
    · obtain rfl : k = N := by omega
      have hge : ¬ (k : Int) < (k : Int) := by omega
      obtain ⟨bs1, cap1, rfl, _⟩ := row_cells hp
      obtain ⟨bs2, cap2, rfl, _⟩ := row_cells hq
      have hbs : k = 0 ∨ ∃ g1 g2, bs1 = some ⟨g1, 0, none⟩ ∧ bs2 = some ⟨g2, 0, none⟩ ∧ g1 ≠ g2 := by
        rcases Nat.eq_zero_or_pos k with h0 | h0
        · exact .inl h0
        · obtain ⟨k', rfl⟩ : ∃ k', k = k' + 1 := ⟨k - 1, by omega⟩
          obtain ⟨g1, c1, e1⟩ := ownsRow_succ hp
          obtain ⟨g2, c2, e2⟩ := ownsRow_succ hq
          simp only [Value.slice.injEq] at e1 e2
          refine .inr ⟨g1, g2, e1.1, e2.1, fun e => ?_⟩
          rw [e1.1, e2.1] at hA
          exact hA g1 rfl (by simp [Value.ownBlock, e])
      clear hA
      go_wp2_with fail
      go_loopw [12] (fun z wr => ∃ (i : Nat) (l : List Int), z = .int .i64 i ∧ i ≤ 60 ∧ l.length = k ∧ l.sum = (prodL f g k).sum ∧ Below w.heap.size w wr ∧ wr.ownsRow w.heap.size 24 2 (.slice bs1 k cap1) k (rowW (prodL f g k)) ∧ wr.ownsRow w.heap.size 24 2 (.slice bs2 k cap2) k (rowW l)) (fun z _ => 60 - (intOf z).toNat)
      case atStart =>
        exact ⟨0, prodL f g k, rfl, by omega, prodL_len f g k, rfl, hB, hp, hq⟩
      case round =>
        clear hp hq hB
        obtain ⟨i, l, rfl, hi60, hll, hsum, hB, hp, hq⟩ := hrel
        by_cases hall : i < lt ∧ 0 < k ∧ i < 60
        · obtain ⟨q1, q2, q3⟩ := hall
          obtain ⟨g1, g2, rfl, rfl, hne⟩ : ∃ g1 g2, bs1 = some ⟨g1, 0, none⟩ ∧ bs2 = some ⟨g2, 0, none⟩ ∧ g1 ≠ g2 := by
            rcases hbs with h0 | h0
            · omega
            · exact h0
          have hap : ∀ j, (Value.slice (some ⟨g1, 0, none⟩) k cap1).ownBlock = some j → some g2 ≠ some j := fun j e h => hne (by simp [Value.ownBlock] at e; cases h; exact e)
          clear hbs
          have q1' : (i : Int) < (lt : Int) := by omega
          have q2' : (0 : Int) < (k : Int) := by omega
          have q3' : (i : Int) < 60 := by omega
          have qi0 : 0 ≤ (i : Int) := by omega
          obtain ⟨bt, rfl, hbt, cT0, t1, t2⟩ := ht i q1
          have cT := (hB.cell (p := bt.add i) (by rw [blk_add]; exact hbt)).trans cT0
          have kbt := Has.of (Nat.lt_of_lt_of_le hbt hB.size)
          have qk : ¬ (k : Int) = 0 := by omega
          clear cT0
          go_wp2_with fail
          refine wp_region_quiet_below (by kernel_rfl) (by kernel_rfl) ?_
          repeat (go_big_quiet_step (fail))
          refine wpQuiet_nil ?_
          rintro _ ⟨⟨d2, o2⟩, rfl⟩
          have hb4 : Below wr.heap.size wr (grow (redrawn wr d2) o2) := below_regrown wr d2 o2
          have hU : Below w.heap.size w (grow (redrawn wr d2) o2) := hB.trans (hb4.mono hB.size)
          have hp1 := row_kept hp (grownBy_below hb4 none) (fun _ _ => by simp)
          have hq1 := row_kept hq (grownBy_below hb4 none) (fun _ _ => by simp)
          generalize grow (redrawn wr d2) o2 = U at hU hp1 hq1 ⊢
          clear hb4 hp hq hB cT kbt
          obtain ⟨u, hu⟩ : ∃ u : Nat, h i % (k : Int) = u := ⟨(h i % k).toNat, by have := Int.emod_nonneg (h i) qk; omega⟩
          obtain ⟨v, hv⟩ : ∃ v : Nat, (i : Int) % (k : Int) = v := ⟨((i : Int) % k).toNat, by have := Int.emod_nonneg (i : Int) qk; omega⟩
          have uk : u < k := by have := Int.emod_lt_of_pos (h i) q2'; omega
          have vk : v < k := by have := Int.emod_lt_of_pos (i : Int) q2'; omega
          rw [hu, hv]
          clear hu hv
          have u0 : (0 : Int) ≤ (u : Int) := by omega
          have uk' : (u : Int) < (k : Int) := by omega
          have v0 : (0 : Int) ≤ (v : Int) := by omega
          have vk' : (v : Int) < (k : Int) := by omega
          have ul : u < l.length := by omega
          have vl : v < l.length := by omega
          have hU2 := hU.size
          have g2U := (hq1.lt g2 rfl)
          have swp := sum_swap l u v ul vl
          have set1 := rowW_set l l[v] u ul
          have set2 := rowW_set (l.set u l[v]) l[u] v (by simpa using vl)
          have ra := rowW_at l u ul
          have rb := rowW_at l v vl
          generalize hz1' : l[u] = z1 at swp set2 ra
          generalize hz2' : l[v] = z2 at swp set1 set2 rb
          clear hz1' hz2'
          have c0 : U.cell? ⟨g2, u * 2, none⟩ = some (.int .i64 (hi z1)) := (hq1.cellAt (u * 2) (by omega)).trans ra.1
          have c1 : U.cell? ⟨g2, u * 2 + 1, none⟩ = some (.int .u64 (lo z1)) := (hq1.cellAt (u * 2 + 1) (by omega)).trans ra.2
          repeat ((fail_if_success (with_reducible show Code.wp _ (Code.seq (Code.region 14 _ _) _) _ _ _)); go_step)
          have bV : CellsAt (U.alloc (.cells #[.int .i64 (hi z1), .int .u64 (lo z1)] 24)) U.heap.size 24 #[.int .i64 (hi z1), .int .u64 (lo z1)] := World.alloc_heap_new U _
          have hV : Below w.heap.size w (U.alloc (.cells #[.int .i64 (hi z1), .int .u64 (lo z1)] 24)) := hU.alloc hU.size _
          have hp2 := hp1.alloc (.cells #[.int .i64 (hi z1), .int .u64 (lo z1)] 24)
          have hq2 := hq1.alloc (.cells #[.int .i64 (hi z1), .int .u64 (lo z1)] 24)
          have gB : g2 ≠ U.heap.size := by omega
          generalize U.heap.size = Bx at bV gB ⊢
          generalize U.alloc (.cells #[.int .i64 (hi z1), .int .u64 (lo z1)] 24) = V at bV hV hp2 hq2 ⊢
          clear c0 c1 hp1 hq1 hU hU2
          have d0 : V.cell? ⟨g2, v * 2, none⟩ = some (.int .i64 (hi z2)) := (hq2.cellAt (v * 2) (by omega)).trans rb.1
          have d1 : V.cell? ⟨g2, v * 2 + 1, none⟩ = some (.int .u64 (lo z2)) := (hq2.cellAt (v * 2 + 1) (by omega)).trans rb.2
          have c0 : V.cell? ⟨g2, u * 2, none⟩ = some (.int .i64 (hi z1)) := (hq2.cellAt (u * 2) (by omega)).trans ra.1
          have c1 : V.cell? ⟨g2, u * 2 + 1, none⟩ = some (.int .u64 (lo z1)) := (hq2.cellAt (u * 2 + 1) (by omega)).trans ra.2
          have f0 := hq2.frozenAt (u * 2)
          have f1 := hq2.frozenAt (u * 2 + 1)
          repeat ((fail_if_success (with_reducible show Code.wp _ (Code.region 15 _ _) _ _ _)); go_step)
          have hq3 := (hq2.stored (u * 2) (.int .i64 (hi z2))).1
          have hq4 := (hq3.stored (u * 2 + 1) (.int .u64 (lo z2))).1
          rw [set1] at hq4
          have b4 := CellsAt.kept (CellsAt.kept bV ((hq2.stored (u * 2) (.int .i64 (hi z2))).2.block Bx bV.lt (fun e => gB (by cases e; rfl)))) ((hq3.stored (u * 2 + 1) (.int .u64 (lo z2))).2.block Bx (by have := (hq2.stored (u * 2) (.int .i64 (hi z2))).2.size; have := bV.lt; omega) (fun e => gB (by cases e; rfl)))
          have hp3 := row_kept hp2 (hq2.stored (u * 2) (.int .i64 (hi z2))).2 hap
          have hp4 := row_kept hp3 (hq3.stored (u * 2 + 1) (.int .u64 (lo z2))).2 hap
          have hV4 := (hV.setCell (p := ⟨g2, u * 2, none⟩) g2U.1 (.int .i64 (hi z2))).setCell (p := ⟨g2, u * 2 + 1, none⟩) g2U.1 (.int .u64 (lo z2))
          generalize (V.setCell ⟨g2, u * 2, none⟩ (.int .i64 (hi z2))).setCell ⟨g2, u * 2 + 1, none⟩ (.int .u64 (lo z2)) = V4 at hq4 b4 hp4 hV4 ⊢
          clear hq3 hp3 hq2 hp2 hV bV c0 c1 d0 d1 f0 f1
          have c0 : V4.cell? ⟨Bx, 0, none⟩ = some (.int .i64 (hi z1)) := b4.cell 0
          have c1 : V4.cell? ⟨Bx, 1, none⟩ = some (.int .u64 (lo z1)) := b4.cell 1
          have sl : (rowW (l.set u z2)).length = k * 2 := by rw [rowW_len]; simp; omega
          have d0 : V4.cell? ⟨g2, v * 2, none⟩ = some _ := (hq4.cellAt (v * 2) (by omega)).trans (List.getElem?_eq_getElem (by omega))
          have d1 : V4.cell? ⟨g2, v * 2 + 1, none⟩ = some _ := (hq4.cellAt (v * 2 + 1) (by omega)).trans (List.getElem?_eq_getElem (by omega))
          have f0 := hq4.frozenAt (v * 2)
          have f1 := hq4.frozenAt (v * 2 + 1)
          go_wp2_with fail
          have hq5 := (hq4.stored (v * 2) (.int .i64 (hi z1))).1
          have hq6 := (hq5.stored (v * 2 + 1) (.int .u64 (lo z1))).1
          rw [set2] at hq6
          have hp5 := row_kept hp4 (hq4.stored (v * 2) (.int .i64 (hi z1))).2 hap
          have hp6 := row_kept hp5 (hq5.stored (v * 2 + 1) (.int .u64 (lo z1))).2 hap
          refine ⟨?_, by simp [intOf]; omega⟩
          exact ⟨i + 1, (l.set u z2).set v z1, by simp, by omega, by simp; omega, by rw [swp]; exact hsum, (hV4.setCell (p := ⟨g2, v * 2, none⟩) g2U.1 (.int .i64 (hi z1))).setCell (p := ⟨g2, v * 2 + 1, none⟩) g2U.1 (.int .u64 (lo z1)), hp6, hq6⟩
        · rename World => wq
          have hex : ¬ (i : Int) < (lt : Int) ∨ ((i : Int) < (lt : Int) ∧ ¬ (0 : Int) < (k : Int)) ∨ ((i : Int) < (lt : Int) ∧ (0 : Int) < (k : Int) ∧ ¬ (i : Int) < 60) := by omega
          have hX1 : ((prodL f g k).take k).sum = (prodL f g k).sum := by rw [List.take_of_length_le (by rw [prodL_len]; omega)]
          have hX2 : (l.take k).sum = (prodL f g k).sum := by rw [List.take_of_length_le (by omega)]; exact hsum
          have hpl := prodL_len f g k
          obtain ⟨P, hP⟩ : ∃ P, P = prodL f g k := ⟨_, rfl⟩
          rw [← hP] at hX1 hX2 hpl hp
          have HX1 := Lib.hid hX1
          have HX2 := Lib.hid hX2
          clear hP hX1 hX2 hsum hall hbs ha hx ht
          obtain ⟨_, _, e1, celp⟩ := row_cells hp
          simp only [Value.slice.injEq, true_and] at e1
          obtain ⟨rfl, rfl⟩ := e1
          obtain ⟨_, _, e1, celq⟩ := row_cells hq
          simp only [Value.slice.injEq, true_and] at e1
          obtain ⟨rfl, rfl⟩ := e1
          have z0 : hi 0 = 0 ∧ lo 0 = 0 := by decide +kernel
          have n5 : nv 5 = 5 ∧ nb 5 = true := by decide +kernel
          have Z0 := Lib.hid z0
          have N5 := Lib.hid n5
          clear hp hq z0 n5
          rcases hex with h1 | ⟨h1, h2⟩ | ⟨h1, h2, h3⟩
          all_goals
            go_wp2_with fail
            have bS : CellsAt ((wq.alloc (.cells #[.int .i64 0, .int .u64 0] 24)).alloc (.cells #[.int .i64 0, .int .u64 0] 24)) wq.heap.size 24 #[.int .i64 0, .int .u64 0] := (Below.heap_alloc _ _ _ (by simp)).trans (World.alloc_heap_new wq _)
            have bT : CellsAt ((wq.alloc (.cells #[.int .i64 0, .int .u64 0] 24)).alloc (.cells #[.int .i64 0, .int .u64 0] 24)) (wq.heap.size + 1) 24 #[.int .i64 0, .int .u64 0] := by
              have := World.alloc_heap_new (wq.alloc (.cells #[.int .i64 0, .int .u64 0] 24)) (.cells #[.int .i64 0, .int .u64 0] 24)
              rwa [World.size_alloc] at this
            have hB0 : Below wq.heap.size wq ((wq.alloc (.cells #[.int .i64 0, .int .u64 0] 24)).alloc (.cells #[.int .i64 0, .int .u64 0] 24)) := bl2 _ _ _
            obtain ⟨Bs, hBs'⟩ : ∃ Bs, Bs = wq.heap.size := ⟨_, rfl⟩
            obtain ⟨Bt, hBt'⟩ : ∃ Bt, Bt = wq.heap.size + 1 := ⟨_, rfl⟩
            have hBs : wq.heap.size ≤ Bs := by omega
            have hBt : wq.heap.size ≤ Bt := by omega
            have hneBs : Bt ≠ Bs := by omega
            have hneBt : Bs ≠ Bt := by omega
            simp only [← hBt'] at bT ⊢
            simp only [← hBs'] at bS ⊢
            clear hBs' hBt'
            generalize (wq.alloc (.cells #[.int .i64 0, .int .u64 0] 24)).alloc (.cells #[.int .i64 0, .int .u64 0] 24) = V0 at bS bT hB0 ⊢
            go_loopw [18] (fun z w3 => ∃ j : Nat, z = .int .i64 j ∧ j ≤ k ∧ Below wq.heap.size wq w3 ∧ CellsAt w3 Bs 24 #[.int .i64 (hi (P.take j).sum), .int .u64 (lo (P.take j).sum)] ∧ CellsAt w3 Bt 24 #[.int .i64 (hi (l.take j).sum), .int .u64 (lo (l.take j).sum)]) (fun z _ => k - (intOf z).toNat)
            case atStart =>
              exact ⟨0, rfl, by omega, hB0, by simpa [Z0.out.1, Z0.out.2] using bS, by simpa [Z0.out.1, Z0.out.2] using bT⟩
            case round =>
              rename World => w3
              clear bS bT hB0
              obtain ⟨j, rfl, hj, hBw3, bS, bT⟩ := hrel
              by_cases hlt3 : j < k
              · have j1 : (j : Int) < (k : Int) := by omega
                have j0 : 0 ≤ (j : Int) := by omega
                have pl : j < P.length := by omega
                have ql : j < l.length := by omega
                have ra := rowW_at P j pl
                have rb := rowW_at l j ql
                have sp := sum_take P j pl
                have sq := sum_take l j ql
                generalize P[j] = zp at ra sp
                generalize l[j] = zq at rb sq
                obtain ⟨g1, rfl, _, hg1, y0⟩ := celp _ _ ra.1
                obtain ⟨_, e1, _, _, y1⟩ := celp _ _ ra.2; cases e1
                obtain ⟨g2, rfl, _, hg2, y2⟩ := celq _ _ rb.1
                obtain ⟨_, e1, _, _, y3⟩ := celq _ _ rb.2; cases e1
                generalize (P.take j).sum = S at bS sp
                generalize (l.take j).sum = T at bT sq
                have SP := Lib.hid sp
                have SQ := Lib.hid sq
                clear sp sq ra rb
                have c0 := (hBw3.cell (p := ⟨g1, j * 2, none⟩) hg1).trans y0
                have c1 := (hBw3.cell (p := ⟨g1, j * 2 + 1, none⟩) hg1).trans y1
                have k1 := Has.of (Nat.lt_of_lt_of_le hg1 hBw3.size)
                have kS := Has.of bS.lt
                have s0 : w3.cell? ⟨Bs, 0, none⟩ = some (.int .i64 (hi S)) := bS.cell 0
                have s1 : w3.cell? ⟨Bs, 1, none⟩ = some (.int .u64 (lo S)) := bS.cell 1
                go_wp2_with fail

                refine wp_region_grown_tail 6 (by kernel_rfl) (by kernel_rfl) ?_
                simp only [List.take_succ_cons, List.take_zero, List.drop_succ_cons, List.drop_zero]
                repeat (go_big_quiet_step (first | (go_at_call 30; exact Calls.regrown_of (tadd5 _ _ _ _ rfl))))
                refine wpQuiet_nil ?_
                rintro _ ⟨⟨d2, o2⟩, rfl⟩
                have hb4 : Below w3.heap.size w3 (grow (redrawn w3 d2) o2) := below_regrown w3 d2 o2

                clear c0 c1 k1 kS s0 s1
                have huU : Below wq.heap.size wq (grow (redrawn w3 d2) o2) := hBw3.trans (hb4.mono hBw3.size)
                have bU := CellsAt.kept bS (hb4.block Bs bS.lt)
                have cU := CellsAt.kept bT (hb4.block Bt bT.lt)
                generalize grow (redrawn w3 d2) o2 = U at huU bU cU ⊢
                have e0 := bU.cell 0
                have e1 := bU.cell 1
                have f0 := bU.frozen 0
                have f1 := bU.frozen 1
                refine wpList_plain rfl (fun K hK => ?_)
                go_simp
                refine hK _ _ ?_
                clear hK
                go_wp2_with fail
                have hBV := (huU.setCell (p := ⟨Bs, 0, none⟩) hBs (.int .i64 (hi (S + zp)))).setCell (p := ⟨Bs, 1, none⟩) hBs (.int .u64 (lo (S + zp)))
                have bV : CellsAt ((U.setCell ⟨Bs, 0, none⟩ (.int .i64 (hi (S + zp)))).setCell ⟨Bs, 1, none⟩ (.int .u64 (lo (S + zp)))) Bs 24 #[.int .i64 (hi (S + zp)), .int .u64 (lo (S + zp))] := (bU.set 0 (.int .i64 (hi (S + zp)))).set 1 (.int .u64 (lo (S + zp)))
                have cV := cells_other (cells_other cU hneBs (.int .i64 (hi (S + zp))) 0) hneBs (.int .u64 (lo (S + zp))) 1
                generalize (U.setCell ⟨Bs, 0, none⟩ (.int .i64 (hi (S + zp)))).setCell ⟨Bs, 1, none⟩ (.int .u64 (lo (S + zp))) = V at hBV bV cV ⊢
                clear huU bU cU e0 e1 f0 f1 hb4
                clear bS bT
                have d0 := (hBV.cell (p := ⟨g2, j * 2, none⟩) hg2).trans y2
                have d1 := (hBV.cell (p := ⟨g2, j * 2 + 1, none⟩) hg2).trans y3
                have k2 := Has.of (Nat.lt_of_lt_of_le hg2 hBV.size)
                have kT := Has.of cV.lt
                have t0 : V.cell? ⟨Bt, 0, none⟩ = some (.int .i64 (hi T)) := cV.cell 0
                have t1 : V.cell? ⟨Bt, 1, none⟩ = some (.int .u64 (lo T)) := cV.cell 1

                refine wp_region_grown_tail 6 (by kernel_rfl) (by kernel_rfl) ?_
                simp only [List.take_succ_cons, List.take_zero, List.drop_succ_cons, List.drop_zero]
                repeat (go_big_quiet_step (first | (go_at_call 30; exact Calls.regrown_of (tadd5 _ _ _ _ rfl))))
                refine wpQuiet_nil ?_
                rintro _ ⟨⟨d2, o2⟩, rfl⟩
                have hb4 : Below V.heap.size V (grow (redrawn V d2) o2) := below_regrown V d2 o2

                clear d0 d1 k2 kT t0 t1
                have huU2 : Below wq.heap.size wq (grow (redrawn V d2) o2) := hBV.trans (hb4.mono hBV.size)
                have bU2 := CellsAt.kept cV (hb4.block Bt cV.lt)
                have cU2 := CellsAt.kept bV (hb4.block Bs bV.lt)
                generalize grow (redrawn V d2) o2 = U2 at huU2 bU2 cU2 ⊢
                have e0 := bU2.cell 0
                have e1 := bU2.cell 1
                have f0 := bU2.frozen 0
                have f1 := bU2.frozen 1
                refine wpList_plain rfl (fun K hK => ?_)
                go_simp
                refine hK _ _ ?_
                clear hK
                go_wp2_with fail
                have hBV2 := (huU2.setCell (p := ⟨Bt, 0, none⟩) hBt (.int .i64 (hi (zq + T)))).setCell (p := ⟨Bt, 1, none⟩) hBt (.int .u64 (lo (zq + T)))
                have bV2 : CellsAt ((U2.setCell ⟨Bt, 0, none⟩ (.int .i64 (hi (zq + T)))).setCell ⟨Bt, 1, none⟩ (.int .u64 (lo (zq + T)))) Bt 24 #[.int .i64 (hi (zq + T)), .int .u64 (lo (zq + T))] := (bU2.set 0 (.int .i64 (hi (zq + T)))).set 1 (.int .u64 (lo (zq + T)))
                have cV2 := cells_other (cells_other cU2 hneBt (.int .i64 (hi (zq + T))) 0) hneBt (.int .u64 (lo (zq + T))) 1
                generalize (U2.setCell ⟨Bt, 0, none⟩ (.int .i64 (hi (zq + T)))).setCell ⟨Bt, 1, none⟩ (.int .u64 (lo (zq + T))) = V2 at hBV2 bV2 cV2 ⊢
                clear huU2 bU2 cU2 e0 e1 f0 f1 hb4
                go_wp2_with fail
                refine ⟨?_, by simp [intOf]; omega⟩
                exact ⟨j + 1, by simp, by omega, hBV2, by rw [SP.out]; exact cV2, by rw [SQ.out, Int.add_comm]; exact bV2⟩
              · obtain rfl : j = k := by omega
                have j1 : ¬ (j : Int) < (j : Int) := by omega
                rw [HX1.out] at bS
                rw [HX2.out] at bT
                generalize hXg : P.sum = X at bS bT HX1
                clear hXg HX2
                have s0 : w3.cell? ⟨Bs, 0, none⟩ = some (.int .i64 (hi X)) := bS.cell 0
                have s1 : w3.cell? ⟨Bs, 1, none⟩ = some (.int .u64 (lo X)) := bS.cell 1
                have t0 : w3.cell? ⟨Bt, 0, none⟩ = some (.int .i64 (hi X)) := bT.cell 0
                have t1 : w3.cell? ⟨Bt, 1, none⟩ = some (.int .u64 (lo X)) := bT.cell 1
                go_wp2_with fail
                clear s0 s1 t0 t1 bT celq
                go_loopw [20] (fun z w4 => ∃ m : Nat, z = .int .i64 m ∧ m ≤ j ∧ Below wq.heap.size wq w4 ∧ CellsAt w4 Bs 24 #[.int .i64 (hi (X - (P.take m).sum)), .int .u64 (lo (X - (P.take m).sum))]) (fun z _ => j - (intOf z).toNat)
                case atStart =>
                  exact ⟨0, rfl, by omega, hBw3, by simpa using bS⟩
                case round =>
                  rename World => w4
                  clear bS
                  obtain ⟨m, rfl, hm, hBw4, bS⟩ := hrel
                  by_cases hlt4 : m < j
                  · have m1 : (m : Int) < (j : Int) := by omega
                    have m0 : 0 ≤ (m : Int) := by omega
                    have pl : m < P.length := by omega
                    have ra := rowW_at P m pl
                    have sp := sum_take P m pl
                    generalize P[m] = zp at ra sp
                    obtain ⟨g1, rfl, _, hg1, y0⟩ := celp _ _ ra.1
                    obtain ⟨_, e1, _, _, y1⟩ := celp _ _ ra.2; cases e1
                    generalize (P.take m).sum = S at bS sp
                    have SP := Lib.hid sp
                    clear sp ra
                    have c0 := (hBw4.cell (p := ⟨g1, m * 2, none⟩) hg1).trans y0
                    have c1 := (hBw4.cell (p := ⟨g1, m * 2 + 1, none⟩) hg1).trans y1
                    have k1 := Has.of (Nat.lt_of_lt_of_le hg1 hBw4.size)
                    have kS := Has.of bS.lt
                    have s0 : w4.cell? ⟨Bs, 0, none⟩ = some (.int .i64 (hi (X - S))) := bS.cell 0
                    have s1 : w4.cell? ⟨Bs, 1, none⟩ = some (.int .u64 (lo (X - S))) := bS.cell 1
                    go_wp2_with fail
                    refine wp_region_grown_tail 6 (by kernel_rfl) (by kernel_rfl) ?_
                    simp only [List.take_succ_cons, List.take_zero, List.drop_succ_cons, List.drop_zero]
                    repeat (go_big_quiet_step (first | (go_at_call 20; exact Calls.regrown_of (tsub_e _ _ _ _ rfl))))
                    refine wpQuiet_nil ?_
                    rintro _ ⟨⟨d2, o2⟩, rfl⟩
                    have hb4 : Below w4.heap.size w4 (grow (redrawn w4 d2) o2) := below_regrown w4 d2 o2

                    clear c0 c1 k1 kS s0 s1
                    have huU : Below wq.heap.size wq (grow (redrawn w4 d2) o2) := hBw4.trans (hb4.mono hBw4.size)
                    have bU := CellsAt.kept bS (hb4.block Bs bS.lt)
                    generalize grow (redrawn w4 d2) o2 = U at huU bU  ⊢
                    have e0 := bU.cell 0
                    have e1 := bU.cell 1
                    have f0 := bU.frozen 0
                    have f1 := bU.frozen 1
                    refine wpList_plain rfl (fun K hK => ?_)
                    go_simp
                    refine hK _ _ ?_
                    clear hK
                    go_wp2_with fail
                    have hBV := (huU.setCell (p := ⟨Bs, 0, none⟩) hBs (.int .i64 (hi (X - S - zp)))).setCell (p := ⟨Bs, 1, none⟩) hBs (.int .u64 (lo (X - S - zp)))
                    have bV : CellsAt ((U.setCell ⟨Bs, 0, none⟩ (.int .i64 (hi (X - S - zp)))).setCell ⟨Bs, 1, none⟩ (.int .u64 (lo (X - S - zp)))) Bs 24 #[.int .i64 (hi (X - S - zp)), .int .u64 (lo (X - S - zp))] := (bU.set 0 (.int .i64 (hi (X - S - zp)))).set 1 (.int .u64 (lo (X - S - zp)))
                    generalize (U.setCell ⟨Bs, 0, none⟩ (.int .i64 (hi (X - S - zp)))).setCell ⟨Bs, 1, none⟩ (.int .u64 (lo (X - S - zp))) = V at hBV bV  ⊢
                    clear huU bU  e0 e1 f0 f1 hb4
                    go_wp2_with fail
                    refine ⟨?_, by simp [intOf]; omega⟩
                    exact ⟨m + 1, by simp, by omega, hBV, by rw [SP.out, show X - (S + zp) = X - S - zp by omega]; exact bV⟩

                  · obtain rfl : m = j := by omega
                    have m1 : ¬ (m : Int) < (m : Int) := by omega
                    have e0 : X - (P.take m).sum = 0 := by rw [HX1.out]; omega
                    rw [e0, Z0.out.1, Z0.out.2] at bS
                    have s0 : w4.cell? ⟨Bs, 0, none⟩ = some (.int .i64 0) := bS.cell 0
                    have s1 : w4.cell? ⟨Bs, 1, none⟩ = some (.int .u64 0) := bS.cell 1
                    have kS := Has.of bS.lt
                    go_wp2_with fail
                    refine (of_any 5 _ (by decide) (by decide)).mono ?_
                    rintro e w5 ⟨rfl, hb1⟩; obtain ⟨⟨d1, o1⟩, rfl⟩ := regrown_of_below hb1; clear hb1
                    go_wp2_with fail
                    refine (narrow_any 5 _).mono ?_
                    rw [N5.out.1, N5.out.2]
                    rintro e w5 ⟨rfl, hb1⟩; obtain ⟨⟨d1, o1⟩, rfl⟩ := regrown_of_below hb1; clear hb1
                    go_wp2
                    go_ret
                    exact ⟨rfl, blg (hB.trans (hBw4.mono hB.size)) _ _⟩
end Go.Proofs.Ytekkgidoblddfaa
