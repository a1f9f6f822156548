/-
  Rows of marks, as a walk makes and sets them.
-/
import Derived.Test.YteggllmiapdmcaaOwn
namespace Go.Proofs.Yteggllmiapdmcaa
open Go.RowKit

/-- The cells of m marks. -/
def boolArr (m : Nat) (P : Nat → Bool) : Array Value := ((List.range m).map fun j : Nat => Value.bool (P j)).toArray
theorem boolArr_at {m : Nat} (P : Nat → Bool) {j : Nat} (h : j < m) : (boolArr m P)[j]? = some (.bool (P j)) := by
  simp [boolArr, h]
theorem boolArr_set (m : Nat) (P : Nat → Bool) (j : Nat) : (boolArr m P).setIfInBounds j (.bool true) = boolArr m (fun x => P x || decide (x = j)) := by
  apply Array.ext_getElem?
  intro i
  rw [Array.getElem?_setIfInBounds]
  have hs1 : (boolArr m P).size = m := by simp [boolArr]
  have hs2 : (boolArr m (fun x => P x || decide (x = j))).size = m := by simp [boolArr]
  by_cases hi : i < m
  · rw [boolArr_at _ hi, boolArr_at _ hi]
    by_cases he : j = i
    · subst he
      simp [hs1, hi]
    · rw [if_neg he]
      have h2 : ¬ (i = j) := fun e => he e.symm
      simp [h2]
  · rw [Array.getElem?_eq_none (by omega : (boolArr m (fun x => P x || decide (x = j))).size ≤ i)]
    split
    · next he => rw [if_neg (by omega)]
    · rw [Array.getElem?_eq_none (by omega)]
theorem boolArr_congr {m : Nat} {P Q : Nat → Bool} (h : ∀ x, P x = Q x) : boolArr m P = boolArr m Q := by
  have : P = Q := funext h
  rw [this]
theorem row_exact {w : World} {B g n : Nat} {e : TypeId} {xs : List Value} (h : w.ownsRow B e 1 (.slice (some ⟨g, 0, none⟩) n n) n xs) : w.heap[g]? = some (.cells xs.toArray e) := by
  rcases h.2 with ⟨hv, _⟩ | ⟨g', cap, cur, hv, _, hg, _, _, hs, ht⟩
  · cases hv
  · injection hv with h1 h2 h3
    injection h1 with h1
    injection h1 with h1
    subst h1; subst h3
    rw [hg, ← ht, List.take_of_length_le (by rw [Array.length_toList]; omega)]
theorem infoB : (Try.prog.info? 4).map (fun i => (i.zero, i.size, i.bytes)) = some (some (.bool false), 1, 1) := by kernel_rfl
theorem made_bools (n : Nat) : (madeCells #[Value.bool false] n).toList = (boolArr n (fun _ => false)).toList := by
  simp [toList_madeCells_one, boolArr, List.map_const']

end Go.Proofs.Yteggllmiapdmcaa
