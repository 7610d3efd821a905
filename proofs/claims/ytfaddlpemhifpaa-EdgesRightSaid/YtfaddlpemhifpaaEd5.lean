/- Package edges: rows of edges in memory, and slices.SortFunc at them. -/
import Derived.Test.YtfaddlpemhifpaaEd4
import Derived.Test.YtfaddlpemhifpaaEdSort
import Derived.Test.YtfaddlpemhifpaaEdCmp
namespace Go.Proofs.Ytfaddlpemhifpaa
open Go.RowKit Go.Sort
set_option linter.unusedVariables false
set_option linter.unusedSimpArgs false
def encE (e : Ed) : List Value := [.int .i64 e.1, .int .i64 e.2.1, .int .i64 e.2.2]
def cellsE (l : List Ed) : List Value := l.flatMap encE
theorem cellsE_nil : cellsE [] = [] := rfl
theorem cellsE_cons (e : Ed) (l : List Ed) : cellsE (e :: l) = encE e ++ cellsE l := rfl
theorem cellsE_app (l m : List Ed) : cellsE (l ++ m) = cellsE l ++ cellsE m := by simp [cellsE]
theorem cellsE_len (l : List Ed) : (cellsE l).length = l.length * 3 := by
  induction l with
  | nil => rfl
  | cons e l ih => rw [cellsE_cons, List.length_append, ih]; simp [encE]; omega
theorem cellsE_at : ∀ (l : List Ed) (i k : Nat), i < l.length → k < 3 → (cellsE l)[i * 3 + k]? = (encE (el l i))[k]?
  | [], i, k, h, _ => by simp at h
  | e :: l, 0, k, h, hk => by
    rw [cellsE_cons, List.getElem?_append_left (by simp [encE]; omega)]
    simp [el]
  | e :: l, i + 1, k, h, hk => by
    rw [cellsE_cons, List.getElem?_append_right (by simp [encE]; omega)]
    have : (i + 1) * 3 + k - (encE e).length = i * 3 + k := by simp [encE]; omega
    rw [this, cellsE_at l i k (by simpa using h) hk]
    simp [el]
theorem cellsE_one (l : List Ed) : ∀ u ∈ cellsE l, u.oneCell' = true := by
  intro u hu
  obtain ⟨e, _, he⟩ := List.mem_flatMap.1 hu
  simp [encE] at he
  rcases he with rfl | rfl | rfl <;> rfl
theorem addr0 (g i : Nat) : ((⟨g, 0, none⟩ : Addr).add i) = ⟨g, i, none⟩ := by unfold Addr.add; split <;> simp_all
/-- Cells that lie one behind the other from the start of a block on are a slice that may be read. -/
theorem rdE_cells {w : World} {g : Nat} {l : List Ed} (hg : g < w.heap.size) (hc : ∀ i, i < l.length → ∀ k, k < 3 → w.cell? ⟨g, i * 3 + k, none⟩ = (encE (el l i))[k]?) : RdE w (some ⟨g, 0, none⟩) l := by
  intro i hi
  have e : (⟨g, 0, none⟩ : Addr).add (i * 3) = ⟨g, i * 3, none⟩ := addr0 _ _
  refine ⟨⟨g, 0, none⟩, rfl, hg, ?_, ?_, ?_⟩
  · rw [e]; simpa [encE] using hc i hi 0 (by omega)
  · rw [e]; simpa [encE] using hc i hi 1 (by omega)
  · rw [e]; simpa [encE] using hc i hi 2 (by omega)
theorem row_rdE {w : World} {base n : Nat} {v : Value} {l : List Ed} (h : w.ownsRow base 41 3 v n (cellsE l)) : n = l.length ∧ ∃ a c, v = .slice a n c ∧ n ≤ c ∧ RdE w a l ∧ (a = none → c = 0 ∧ n = 0) := by
  have hn : n = l.length := by have := h.1; rw [cellsE_len] at this; omega
  refine ⟨hn, ?_⟩
  rcases h.2 with ⟨rfl, h0⟩ | ⟨g, cap, cur, rfl, hb, hg, hcap, _⟩
  · obtain rfl : n = 0 := h0
    exact ⟨none, 0, rfl, by omega, fun i hi => by omega, fun _ => ⟨rfl, rfl⟩⟩
  · refine ⟨some ⟨g, 0, none⟩, cap, rfl, hcap, ?_, by simp⟩
    refine rdE_cells (Array.getElem?_eq_some_iff.1 hg).1 (fun i hi k hk => ?_)
    rw [h.cellAt (i * 3 + k) (by omega), cellsE_at l i k hi hk]

theorem el_arr (l : List Ed) (i : Nat) (h : i < l.length) : (l.toArray)[i]! = el l i := by
  simp [el, List.getD_eq_getElem?_getD, h]
theorem flat_at (l : List Ed) (i k : Nat) (h : i < l.length) (hk : k < 3) : some (flatK encE 3 l.toArray)[i * 3 + k]! = (encE (el l i))[k]? := by
  rw [get_flatK _ _ _ _ (by simp; omega), show (i * 3 + k) / 3 = i by omega, show (i * 3 + k) % 3 = k by omega, el_arr l i h]
  have : k < (encE (el l i)).length := by simp [encE]; omega
  rw [getElem!_pos (encE (el l i)) k this, List.getElem?_eq_getElem this]
theorem grownBy_sortedE {w : World} {g n : Nat} {os : Array Obj} (F : Array Value) : w.grownBy (grow (putRow id (Sort.ahead w n) g 0 F) os) (some g) := by
  refine ⟨rfl, rfl, rfl, by simp, fun k hk hne => ?_⟩
  rw [heap_grow_old _ _ (by simpa using hk)]
  have : g ≠ k := fun e => hne (by rw [e])
  simp [putRow, mapBlock, Sort.ahead, Array.getElem?_modify, this]

theorem ltOf_bl : ltOf cmpE = bl := by
  funext a b
  unfold ltOf
  have := cmpE_lt a b
  cases h : bl a b <;> rw [h] at this <;> simp at this ⊢ <;> exact this
theorem swo_bl : SWO bl where
  irrefl x := by simp [bl]
  trans x y z h1 h2 := by simp [bl] at *; omega
  ntrans x y z h1 h2 := by simp [bl] at *; omega
theorem sortedIn_pw {l : List Ed} (h : SortedIn bl 0 l.length l.toArray) : l.Pairwise (fun a b => bl b a = false) := by
  rw [List.pairwise_iff_getElem]
  intro i j hi hj hij
  have := h i j (by omega) hij hj
  rw [el_arr l i hi, el_arr l j hj] at this
  simpa [el, List.getD_eq_getElem?_getD, hi, hj] using this

set_option maxHeartbeats 1000000 in
theorem sortF_any (g c : Nat) (l : List Ed) (w : World) (hg : g < w.heap.size) (hc : ∀ i, i < l.length → ∀ k, k < 3 → w.cell? ⟨g, i * 3 + k, none⟩ = (encE (el l i))[k]?) (hf : ∀ j, w.frozen? ⟨g, j, none⟩ = false) (hl : l.length < 4611686018427387904) :
    Calls Try.prog 45 #[.slice (some ⟨g, 0, none⟩) l.length c, .func (.func 46) #[] #[]] w fun e w' => e = .returned (.tuple #[]) ∧ ∃ l' : List Ed, l'.Perm l ∧ l'.Pairwise (fun a b => bl b a = false) ∧ RdE w' (some ⟨g, 0, none⟩) l' ∧ w.grownBy w' (some g) := by
  have eg : ∀ args w, (callFunc 46 args).run Try.prog w = .ok (.enter 46 args) w := enters_of Try.func46 (by kernel_rfl) rfl
  have hcmp : CmpLays Try.prog 46 #[] encE 3 cmpE g 0 l.toArray.size w := fun m os dk _ x y => byEnds_drewn x y _
  have hH : HoldsK encE 3 w g 0 l.toArray := by
    intro j hj
    have hj' : j < l.length * 3 := by simpa using hj
    refine ⟨?_, hf _⟩
    have := hc (j / 3) (by omega) (j % 3) (by omega)
    rw [Nat.zero_add, show j = j / 3 * 3 + j % 3 by omega, this, ← flat_at l _ _ (by omega) (by omega)]
    rfl
  have hO : SWO (ltOf cmpE) := by rw [ltOf_bl]; exact swo_bl
  have hcon := AnyQ.slices_SortFunc sortE 3 Try.isAgg41 Try.sizeOf41 encE (fun _ => rfl) (fun x v hv => by simp [encE] at hv; rcases hv with rfl | rfl | rfl <;> rfl) cmpE hO 46 #[] g 0 c l.toArray w eg hcmp hH hg (by simpa using hl)
  refine hcon.mono ?_
  rintro e w' ⟨rfl, d', n, os, hp, hs, rfl⟩
  obtain ⟨l', rfl⟩ : ∃ l' : List Ed, d' = l'.toArray := ⟨d'.toList, by simp⟩
  have hsz : l'.length = l.length := by simpa using hp.1
  refine ⟨rfl, l', ?_, ?_, ?_, ?_⟩
  · have := hp.2.2
    rw [show l.toArray.size = l'.toArray.size by simpa using hsz.symm] at this
    rw [Array.extract_size] at this
    have h2 := hp.2.2
    rw [show l.toArray.size = l'.toArray.size by simpa using hsz.symm] at h2
    rw [Array.extract_size] at h2
    refine h2.trans ?_
    rw [show l'.toArray.size = l.toArray.size by simpa using hsz, Array.extract_size]
  · rw [ltOf_bl] at hs
    exact sortedIn_pw (by rw [hsz]; simpa using hs)
  · refine rdE_cells ?_ (fun i hi k hk => ?_)
    · simp [sortWorldK, putRowK]
      omega
    · have hH2 := holds_putRow id (Sort.ahead w n) g 0 _ (flatK encE 3 l'.toArray) (show Holds id (Sort.ahead w n) g 0 (flatK encE 3 l.toArray) from hH) (by simp [hsz]) (i * 3 + k) (by simp; omega)
      rw [Nat.zero_add] at hH2
      unfold sortWorldK
      rw [cell?_grow _ _ _ (by simpa [putRowK] using hg)]
      exact hH2.1.trans (flat_at l' i k hi hk)
  · exact grownBy_sortedE _
end Go.Proofs.Ytfaddlpemhifpaa
