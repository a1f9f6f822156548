/-
  A table that is filled cell by cell.
-/
import Derived.Test.YteggllmiapdmcaaGrid
import Derived.Test.YteggllmiapdmcaaCopied
namespace Go.Proofs.Yteggllmiapdmcaa
open Go.RowKit

/-- The numbers of F up to the cell y of the row x, zeros behind. -/
def fillG (F : Nat → Nat → Nat) (x y : Nat) (a b : Nat) : Nat := if a < x ∨ (a = x ∧ b < y) then F a b else 0
theorem fillG_start (F : Nat → Nat → Nat) (a b : Nat) : 0 = fillG F 0 0 a b := by unfold fillG; rw [if_neg (by omega)]
theorem fillG_row (F : Nat → Nat → Nat) {x n a b : Nat} (hb : b < n) : fillG F x n a b = fillG F (x + 1) 0 a b := by
  unfold fillG
  by_cases h : a < x ∨ (a = x ∧ b < n)
  · rw [if_pos h, if_pos (by omega)]
  · rw [if_neg h, if_neg (by omega)]
theorem fillG_step (F : Nat → Nat → Nat) (x y a b : Nat) : fillG F x (y + 1) a b = if a = x ∧ b = y then F x y else fillG F x y a b := by
  unfold fillG
  by_cases h : a = x ∧ b = y
  · rw [if_pos h, if_pos (by omega), h.1, h.2]
  · rw [if_neg h]
    by_cases h2 : a < x ∨ (a = x ∧ b < y)
    · rw [if_pos h2, if_pos (by omega)]
    · rw [if_neg h2, if_neg (by omega)]
theorem fillG_end (F : Nat → Nat → Nat) {n a b : Nat} (ha : a < n) : fillG F n 0 a b = F a b := by
  unfold fillG; rw [if_pos (by omega)]

section
variable {B G : Nat} {w : World} {n k : Nat} {L : List SL} {zss : List (List Int)}
theorem Part2.cells (h : Part2 B G w n k L zss) (hk : k ≤ n) (hl : zss.length = n) {j x : Nat} {zs : List Int} {z : Int} (hj : j < k) (hz : zss[j]? = some zs) (hx : zs[x]? = some z) :
    ∃ g cr, w.cell? ⟨G, j, none⟩ = some (.slice (some ⟨g, 0, none⟩) zs.length cr) ∧ w.cell? ⟨g, x, none⟩ = some (.int .i64 z) ∧ w.frozen? ⟨g, x, none⟩ = false ∧ L[j]? = some (some ⟨g, 0, none⟩, zs.length, cr) ∧ B ≤ g ∧ g < w.heap.size ∧ x < zs.length := by
  have hxl : x < zs.length := (List.getElem?_eq_some_iff.1 hx).1
  have hlen := h.len
  have hL : L[j]? = some (L[j]'(by omega)) := List.getElem?_eq_getElem (by omega)
  obtain ⟨t, ht⟩ : ∃ t, t = L[j]'(by omega) := ⟨_, rfl⟩
  rw [← ht] at hL
  have hi := h.inner j t zs hL hz
  have hil := hi.len
  obtain ⟨At, nt, ct⟩ := t
  dsimp only at hi hil
  subst hil
  rcases hi.form with ⟨_, h0, _⟩ | ⟨g, rfl, hg, hgl, _, _⟩
  · omega
  · refine ⟨g, ct, ?_, ?_, hi.1.frozenAt x, hL, hg, hgl, hxl⟩
    · rw [h.outer.cellAt j (by omega), List.getElem?_append_left (by simp [hlen]; omega), List.getElem?_map, hL]; rfl
    · rw [hi.1.cellAt x (by omega)]; simp [cells64, hx]
/-- A store into a cell of a row that has been made. -/
theorem Part2.store (h : Part2 B G w n k L zss) {j x g cr : Nat} {zs : List Int} {z : Int} (hz : zss[j]? = some zs) (hL : L[j]? = some (some ⟨g, 0, none⟩, zs.length, cr)) (hw : (Lit.int .i64 z).wf = true) :
    Part2 B G (w.setCell ⟨g, x, none⟩ (.int .i64 z)) n k L (zss.set j (zs.set x z)) := by
  have hi := h.inner j _ zs hL hz
  have hj : j < zss.length := (List.getElem?_eq_some_iff.1 hz).1
  have hgG : g ≠ G := fun e => own_ne hi.1 h.outer (by decide) g rfl (by rw [e])
  refine ⟨ownsRow_keep h.outer fun g' hg' => Below.heap_setCell w ⟨g, x, none⟩ _ g' (fun e => by injection hg' with hg'; injection hg' with hg'; simp at e; omega), h.len, ?_, h.apart⟩
  intro i t ys ht hy
  by_cases hij : i = j
  · subst hij
    rw [hL] at ht
    have e1 := Option.some.inj ht
    subst e1
    rw [List.getElem?_set_self hj] at hy
    have e2 := Option.some.inj hy
    subst e2
    have hst := (hi.1.stored x (.int .i64 z)).1
    have e : (cells64 zs).set x (.int .i64 z) = cells64 (zs.set x z) := by rw [cells64, ← List.map_set]
    rw [e] at hst
    refine ⟨hst, fun y hy => ?_⟩
    rcases List.mem_or_eq_of_mem_set hy with h1 | rfl
    · exact hi.2 y h1
    · exact hw
  · rw [List.getElem?_set_ne (by omega)] at hy
    exact (h.inner i t ys ht hy).keep fun g' hg' => Below.heap_setCell w ⟨g, x, none⟩ _ g' (fun e => by
      simp at e; subst e
      exact h.apart i j t _ g' ht hL hij hg' rfl)
theorem Part2.below {w' : World} (h : Part2 B G w n k L zss) (hG : G < w.heap.size) (hb : Below w.heap.size w w') : Part2 B G w' n k L zss := by
  have hlen := h.len
  refine ⟨ownsRow_keep h.outer fun g hg => hb.block g (by injection hg with hg; injection hg with hg; omega), h.len, ?_, h.apart⟩
  intro j t zs ht hz
  have hi := h.inner j t zs ht hz
  exact hi.keep fun g hg => hb.block g (hi.lt g hg)
theorem grid_len (r s : Nat) (F : Nat → Nat → Nat) : (gridOf r s F).length = r := by simp [gridOf]
end
end Go.Proofs.Yteggllmiapdmcaa
