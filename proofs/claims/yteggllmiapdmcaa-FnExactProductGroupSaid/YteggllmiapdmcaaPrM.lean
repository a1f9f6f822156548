/-
  A group's products in one flat array: its cells, and a row that is laid into it.
-/
import Derived.Test.YteggllmiapdmcaaTabR
import Derived.Test.YteggllmiapdmcaaBlk
import Derived.Laws.CopyOwn
namespace Go.Proofs.Yteggllmiapdmcaa
open Go.RowKit

def prL (n e : Int) (F : Nat → Nat) : List Value := .int .i64 n :: .int .i64 e :: (List.range 100).map fun i => Value.int .i64 (F i : Int)
def prA (n e : Int) (F : Nat → Nat) : Array Value := (prL n e F).toArray
theorem prL_len (n e : Int) (F : Nat → Nat) : (prL n e F).length = 102 := by simp [prL]
theorem prL_at (n e : Int) (F : Nat → Nat) {i : Nat} (hi : i < 100) : (prL n e F)[i + 2]? = some (.int .i64 (F i : Int)) := by
  simp [prL, hi]
theorem prA_at (n e : Int) (F : Nat → Nat) {i : Nat} (hi : i < 100) : (prA n e F)[i + 2]? = some (.int .i64 (F i : Int)) := by
  rw [prA, List.getElem?_toArray]; exact prL_at n e F hi
theorem prA_0 (n e : Int) (F : Nat → Nat) : (prA n e F)[0]? = some (.int .i64 n) := by simp [prA, prL]
theorem prA_1 (n e : Int) (F : Nat → Nat) : (prA n e F)[1]? = some (.int .i64 e) := by simp [prA, prL]
theorem prA_set (n e e' : Int) (F : Nat → Nat) : (prA n e F).setIfInBounds 1 (.int .i64 e') = prA n e' F := by simp [prA, prL]
theorem prL_congr (n e : Int) {F G : Nat → Nat} (h : ∀ i, i < 100 → F i = G i) : prL n e F = prL n e G := by
  unfold prL
  congr 2
  apply List.map_congr_left
  intro i hi
  rw [h i (List.mem_range.1 hi)]
/-- The first k rows of a table, one behind the other. -/
def flat (t : List (List Int)) (n k i : Nat) : Nat := if i < k * n then cellZ t (i / n) (i % n) else 0
theorem flat_at {t : List (List Int)} {n x y : Nat} (hx : x < n) (hy : y < n) : flat t n n (x * n + y) = cellZ t x y := by
  unfold flat
  have h1 : (x + 1) * n ≤ n * n := Nat.mul_le_mul_right _ hx
  rw [Nat.add_mul] at h1
  rw [if_pos (by omega), Nat.mul_comm x n, Nat.mul_add_div (by omega), Nat.div_eq_of_lt hy, Nat.mul_add_mod, Nat.mod_eq_of_lt hy, Nat.add_zero]
theorem div_flat {k n y : Nat} (hy : y < n) : (k * n + y) / n = k := by rw [Nat.mul_comm k n, Nat.mul_add_div (by omega), Nat.div_eq_of_lt hy, Nat.add_zero]
theorem mod_flat {k n y : Nat} (hy : y < n) : (k * n + y) % n = y := by rw [Nat.mul_comm k n, Nat.mul_add_mod, Nat.mod_eq_of_lt hy]
theorem flat_zero (t : List (List Int)) (n i : Nat) : flat t n 0 i = 0 := by unfold flat; rw [if_neg (by omega)]
theorem sq_le {n x : Nat} (hn : n ≤ 10) (hx : x < n) : x * n + n ≤ 100 := by
  have h1 : (x + 1) * n ≤ n * n := Nat.mul_le_mul_right _ hx
  rw [Nat.add_mul] at h1
  have h2 : n * n ≤ 10 * 10 := Nat.mul_le_mul hn hn
  omega
def rowC (t : List (List Int)) (n k : Nat) : List Value := (List.range n).map fun y => Value.int .i64 (cellZ t k y : Int)
theorem rowC_len (t : List (List Int)) (n k : Nat) : (rowC t n k).length = n := by simp [rowC]
theorem rowC_at {t : List (List Int)} {n k y : Nat} (hy : y < n) : (rowC t n k)[y]? = some (.int .i64 (cellZ t k y : Int)) := by simp [rowC, hy]
theorem flat_splice {t : List (List Int)} {n k : Nat} (a e : Int) (hk : k < n) (hn : n ≤ 10) : splice (prL a e (flat t n k)) (k * n + 2) (rowC t n k) = prL a e (flat t n (k + 1)) := by
  have hs := sq_le hn hk
  have hk1 : (k + 1) * n = k * n + n := by rw [Nat.add_mul]; omega
  have hlen : (splice (prL a e (flat t n k)) (k * n + 2) (rowC t n k)).length = 102 := by
    rw [length_splice _ _ _ (by rw [prL_len, rowC_len]; omega), prL_len]
  apply List.ext_getElem?
  intro j
  by_cases hj : j < 102
  · unfold splice
    rcases Nat.lt_or_ge j (k * n + 2) with h1 | h1
    · rw [List.getElem?_append_left (by simp [prL_len]; omega), List.getElem?_take, if_pos h1]
      match j, h1, hj with
      | 0, _, _ => rfl
      | 1, _, _ => rfl
      | i + 2, h1, hj =>
        rw [prL_at _ _ _ (by omega), prL_at _ _ _ (by omega)]
        unfold flat
        rw [if_pos (by omega), if_pos (by omega)]
    · obtain ⟨i, rfl⟩ : ∃ i, j = i + 2 := ⟨j - 2, by omega⟩
      rw [List.getElem?_append_right (by simp [prL_len]; omega), prL_at _ _ _ (by omega)]
      have hl : (List.take (k * n + 2) (prL a e (flat t n k))).length = k * n + 2 := by simp [prL_len]; omega
      rw [hl]
      rcases Nat.lt_or_ge i (k * n + n) with h2 | h2
      · rw [List.getElem?_append_left (by rw [rowC_len]; omega), rowC_at (by omega)]
        unfold flat
        rw [if_pos (by omega)]
        obtain ⟨y, rfl⟩ : ∃ y, i = k * n + y := ⟨i - k * n, by omega⟩
        have e1 := div_flat (k := k) (n := n) (y := y) (by omega)
        have e2 := mod_flat (k := k) (n := n) (y := y) (by omega)
        have e3 : k * n + y + 2 - (k * n + 2) = y := by omega
        rw [e1, e2, e3]
      · rw [List.getElem?_append_right (by rw [rowC_len]; omega), List.getElem?_drop, rowC_len]
        rw [show k * n + 2 + n + (i + 2 - (k * n + 2) - n) = i + 2 by omega, prL_at _ _ _ (by omega)]
        unfold flat
        rw [if_neg (by omega), if_neg (by omega)]
  · rw [List.getElem?_eq_none (by omega), List.getElem?_eq_none (by rw [prL_len]; omega)]
/-- The block b holds the products of the group t of n elements with the identity e. -/
def Pr (w : World) (b n : Nat) (e : Int) (t : List (List Int)) : Prop := Blk w b (prA n e (flat t n n)) 72
section
variable {w w' : World} {b n : Nat} {e : Int} {t : List (List Int)}
theorem Pr.size (h : Pr w b n e t) : w.cell? ⟨b, 0, none⟩ = some (.int .i64 n) := (Blk.cell h 0).trans (prA_0 _ _ _)
theorem Pr.ident (h : Pr w b n e t) : w.cell? ⟨b, 1, none⟩ = some (.int .i64 e) := (Blk.cell h 1).trans (prA_1 _ _ _)
theorem Pr.cell (h : Pr w b n e t) (hn : n ≤ 10) {x y : Nat} (hx : x < n) (hy : y < n) : w.cell? ⟨b, x * n + y + 2, none⟩ = some (.int .i64 (cellZ t x y : Int)) := by
  have hs := sq_le hn hx
  rw [Blk.cell h (x * n + y + 2), prA_at _ _ _ (by omega), flat_at hx hy]
theorem Pr.below (h : Pr w b n e t) {B : Nat} (hb : Below B w w') (hB : b < B) : Pr w' b n e t := Blk.below h hb hB
theorem Pr.drewN (h : Pr w b n e t) (m : Nat) : Pr (w.drewN m) b n e t := h
theorem Pr.lt (h : Pr w b n e t) : b < w.heap.size := Blk.lt h
end
end Go.Proofs.Yteggllmiapdmcaa
