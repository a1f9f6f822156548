/-
  What the size of a table tells of its rows.
-/
import Derived.Test.YteggllmiapdmcaaCh
namespace Go.Proofs.Yteggllmiapdmcaa
open Go.RowKit

theorem mem_le_sum : ∀ {l : List Nat} {x : Nat}, x ∈ l → x ≤ l.sum
  | a :: r, x, h => by
    rcases List.mem_cons.1 h with rfl | h
    · simp
    · have := mem_le_sum h
      simp; omega
theorem small2 {zss : List (List Int)} (h : tot2 zss ≤ 1048576) : ∀ zs ∈ zss, zs.length ≤ 1048576 := fun zs hz => by
  have := mem_le_sum (List.mem_map.2 ⟨zs, hz, rfl⟩ : zs.length ∈ zss.map List.length)
  unfold tot2 at h; omega
theorem small2_len {zss : List (List Int)} {n : Nat} (hl : zss.length = n) (h : tot2 zss ≤ 1048576) : n ≤ 1048576 := by
  unfold tot2 at h; omega
theorem sum_le_tot2' (zss : List (List Int)) : (zss.map List.length).sum ≤ tot2 zss := by unfold tot2; omega
end Go.Proofs.Yteggllmiapdmcaa
