/-
  Cells of slices of slices that a call writes itself; rows of cells by a function.
-/
import Derived.Test.YteggllmiapdmcaaOwn2
namespace Go.Proofs.Yteggllmiapdmcaa
open Go.RowKit

section
variable {B : Nat} {w : World} {A : Option Addr} {n c : Nat} {L : List SL} {zss : List (List Int)}
theorem Own2.cells (h : Own2 B w A n c L zss) {j x : Nat} {zs : List Int} {z : Int} (hz : zss[j]? = some zs) (hx : zs[x]? = some z) :
    ∃ g0 g cr, A = some ⟨g0, 0, none⟩ ∧ j < n ∧ w.cell? ⟨g0, j, none⟩ = some (.slice (some ⟨g, 0, none⟩) zs.length cr) ∧ w.cell? ⟨g, x, none⟩ = some (.int .i64 z) ∧ w.frozen? ⟨g, x, none⟩ = false ∧ L[j]? = some (some ⟨g, 0, none⟩, zs.length, cr) ∧ B ≤ g ∧ g < w.heap.size ∧ x < zs.length := by
  have hj : j < zss.length := (List.getElem?_eq_some_iff.1 hz).1
  have hxl : x < zs.length := (List.getElem?_eq_some_iff.1 hx).1
  have hl := h.len
  have hn := h.n_eq
  have hL : L[j]? = some (L[j]'(by omega)) := List.getElem?_eq_getElem (by omega)
  obtain ⟨t, ht⟩ : ∃ t, t = L[j]'(by omega) := ⟨_, rfl⟩
  rw [← ht] at hL
  have hi := h.inner j t zs hL hz
  have hil := hi.len
  obtain ⟨At, nt, ct⟩ := t
  dsimp only at hi hil
  subst hil
  rcases ownsRow_form h.outer with ⟨_, h0, _⟩ | ⟨g0, rfl, _, hg0, _, _⟩
  · omega
  · rcases hi.form with ⟨_, h0, _⟩ | ⟨g, rfl, hg, hgl, _, _⟩
    · omega
    · refine ⟨g0, g, ct, rfl, by omega, ?_, ?_, hi.1.frozenAt x, hL, hg, hgl, hxl⟩
      · rw [h.outer.cellAt j (by omega), List.getElem?_map, hL]; rfl
      · rw [hi.1.cellAt x (by omega)]; simp [cells64, hx]
/-- A store into a cell of an inner slice. -/
theorem Own2.store (h : Own2 B w A n c L zss) {j x g cr : Nat} {zs : List Int} {z : Int} (hz : zss[j]? = some zs) (hL : L[j]? = some (some ⟨g, 0, none⟩, zs.length, cr)) (hw : (Lit.int .i64 z).wf = true) :
    Own2 B (w.setCell ⟨g, x, none⟩ (.int .i64 z)) A n c L (zss.set j (zs.set x z)) := by
  have hi := h.inner j _ zs hL hz
  have hj : j < zss.length := (List.getElem?_eq_some_iff.1 hz).1
  refine ⟨ownsRow_keep h.outer fun g' hg' => Below.heap_setCell w ⟨g, x, none⟩ _ g' (fun e => h.out j _ g hL rfl (by rw [hg']; simp at e; rw [e])), by simpa using h.len, ?_, h.apart, h.out⟩
  intro i t ys ht hy
  by_cases hij : i = j
  · subst hij
    rw [hL] at ht
    have e1 := Option.some.inj ht
    subst e1
    rw [List.getElem?_set_self hj] at hy
    have e2 := Option.some.inj hy
    subst e2
    have hst := (hi.1.stored x (.int .i64 z)).1
    have e : (cells64 zs).set x (.int .i64 z) = cells64 (zs.set x z) := by rw [cells64, ← List.map_set]
    rw [e] at hst
    refine ⟨hst, fun y hy => ?_⟩
    rcases List.mem_or_eq_of_mem_set hy with h1 | rfl
    · exact hi.2 y h1
    · exact hw
  · rw [List.getElem?_set_ne (by omega)] at hy
    exact (h.inner i t ys ht hy).keep fun g' hg' => Below.heap_setCell w ⟨g, x, none⟩ _ g' (fun e => by
      simp at e; subst e
      exact h.apart i j t _ g' ht hL hij hg' rfl)
end

/-- Rows of so many cells, by a function. -/
def gridOf (r s : Nat) (F : Nat → Nat → Nat) : List (List Int) := (List.range r).map fun j => (List.range s).map fun y => ((F j y : Nat) : Int)
def rowOf (s : Nat) (F : Nat → Nat → Nat) (j : Nat) : List Int := (List.range s).map fun y => ((F j y : Nat) : Int)
theorem grid_row {r s j : Nat} {F : Nat → Nat → Nat} (hj : j < r) : (gridOf r s F)[j]? = some (rowOf s F j) := by
  unfold gridOf rowOf; simp [hj]
theorem row_cell {s j x : Nat} {F : Nat → Nat → Nat} (hx : x < s) : (rowOf s F j)[x]? = some ((F j x : Nat) : Int) := by
  unfold rowOf; simp [hx]
theorem row_len (s j : Nat) (F : Nat → Nat → Nat) : (rowOf s F j).length = s := by simp [rowOf]
theorem grid_congr {r s : Nat} {F G : Nat → Nat → Nat} (h : ∀ j y, j < r → y < s → F j y = G j y) : gridOf r s F = gridOf r s G := by
  unfold gridOf
  apply List.map_congr_left
  intro j hj
  apply List.map_congr_left
  intro y hy
  rw [h j y (List.mem_range.1 hj) (List.mem_range.1 hy)]
theorem grid_set {r s i x v : Nat} {F G : Nat → Nat → Nat} (hG : ∀ j y, j < r → y < s → G j y = if j = i ∧ y = x then v else F j y) :
    (gridOf r s F).set i ((rowOf s F i).set x (v : Int)) = gridOf r s G := by
  apply List.ext_getElem?
  intro j
  by_cases hj : j < r
  · by_cases hij : i = j
    · subst hij
      rw [List.getElem?_set_self (by unfold gridOf; simpa using hj), grid_row hj]
      congr 1
      apply List.ext_getElem?
      intro y
      by_cases hy : y < s
      · by_cases hxy : x = y
        · subst hxy
          rw [List.getElem?_set_self (by rw [row_len]; exact hy), row_cell hy, hG i x hj hy, if_pos ⟨rfl, rfl⟩]
        · rw [List.getElem?_set_ne hxy, row_cell hy, row_cell hy, hG i y hj hy, if_neg (fun h => hxy h.2.symm)]
      · rw [List.getElem?_eq_none (by rw [List.length_set, row_len]; omega), List.getElem?_eq_none (by rw [row_len]; omega)]
    · rw [List.getElem?_set_ne hij, grid_row hj, grid_row hj]
      congr 1
      unfold rowOf
      apply List.map_congr_left
      intro y hy
      rw [hG j y hj (List.mem_range.1 hy), if_neg (fun h => hij h.1.symm)]
  · rw [List.getElem?_eq_none (by simp [gridOf]; omega), List.getElem?_eq_none (by simp [gridOf]; omega)]
theorem grid_zero (r s : Nat) : gridOf r s (fun _ _ => 0) = List.replicate r (List.replicate s 0) := by
  unfold gridOf
  rw [List.eq_replicate_iff]
  refine ⟨by simp, fun l hl => ?_⟩
  simp only [List.mem_map] at hl
  obtain ⟨j, _, rfl⟩ := hl
  rw [List.eq_replicate_iff]
  refine ⟨by simp, fun z hz => ?_⟩
  simp only [List.mem_map] at hz
  obtain ⟨y, _, rfl⟩ := hz
  rfl

end Go.Proofs.Yteggllmiapdmcaa
