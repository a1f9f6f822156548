/-
  A table that a function returns, or none.
-/
import Derived.Test.YteggllmiapdmcaaFill
namespace Go.Proofs.Yteggllmiapdmcaa
open Go.RowKit

/-- A table of the call's own, and whether there is one. -/
def GotT (z : Option (List (List Int))) (w : World) (e : Ending) (w' : World) : Prop :=
  ∃ A c L, e = .returned (.tuple #[.slice A (z.getD []).length c, .bool z.isSome]) ∧ Own2 w.heap.size w' A (z.getD []).length c L (z.getD []) ∧ Below w.heap.size w w'
theorem gotT_none {w w' : World} (h : Below w.heap.size w w') : GotT none w (.returned (.tuple #[.slice none 0 0, .bool false])) w' := ⟨none, 0, [], rfl, Own2.nil _ _, h⟩
theorem grid_sum (n : Nat) (F : Nat → Nat → Nat) (hn : n ≤ 36) : ((gridOf n n F).map List.length).sum ≤ 1296 := by
  have h : ((gridOf n n F).map List.length) = List.replicate n n := by
    rw [List.eq_replicate_iff]
    refine ⟨by simp [gridOf], fun x hx => ?_⟩
    simp only [gridOf, List.map_map, List.mem_map, Function.comp] at hx
    obtain ⟨j, _, rfl⟩ := hx
    simp
  rw [h, List.sum_replicate_nat]
  exact Nat.le_trans (Nat.mul_le_mul hn hn) (by decide)
/-- The table, if it is to be had. -/
def optB (b : Bool) (z : List (List Int)) : Option (List (List Int)) := if b then some z else none
theorem gotT_some {n c : Nat} {F : Nat → Nat → Nat} {w w' : World} {A : Option Addr} {L : List SL} (h : Own2 w.heap.size w' A n c L (gridOf n n F)) (hb : Below w.heap.size w w') : GotT (optB true (gridOf n n F)) w (.returned (.tuple #[.slice A n c, .bool true])) w' := by
  show GotT (some (gridOf n n F)) w _ w'
  exact ⟨A, c, L, by simp [grid_len], by simpa [grid_len] using h, hb⟩
theorem optB_sum (b : Bool) {n : Nat} (F : Nat → Nat → Nat) (hn : b = true → n ≤ 36) : (((optB b (gridOf n n F)).getD []).map List.length).sum ≤ 1000000 := by
  cases b with
  | false => simp [optB]
  | true => exact Nat.le_trans (grid_sum n F (hn rfl)) (by decide)
end Go.Proofs.Yteggllmiapdmcaa
