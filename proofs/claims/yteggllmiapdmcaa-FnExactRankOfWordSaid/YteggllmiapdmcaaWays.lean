/-
  How many ways lead to the end of a chain; cells of slices of slices that a call writes itself.
-/
import Derived.Test.YteggllmiapdmcaaRun
import Derived.Test.YteggllmiapdmcaaGrid
namespace Go.Proofs.Yteggllmiapdmcaa
open Go.RowKit

/-- How many words of the last k places lead from a state to the end. -/
def Ch.ways (c : Ch) (b n : Nat) : Nat → Nat → Nat
  | 0, x => if (x : Int) = c.stop then 1 else 0
  | k + 1, x => ((List.range b).map fun d => c.ways b n k (c.nx (n - (k + 1)) x d)).sum
/-- The part of a sum over the first d symbols. -/
def Ch.wsum (c : Ch) (b n k x d : Nat) : Nat := ((List.range d).map fun d => c.ways b n k (c.nx (n - (k + 1)) x d)).sum
theorem Ch.wsum_zero (c : Ch) (b n k x : Nat) : c.wsum b n k x 0 = 0 := rfl
theorem Ch.wsum_succ (c : Ch) (b n k x d : Nat) : c.wsum b n k x (d + 1) = c.wsum b n k x d + c.ways b n k (c.nx (n - (k + 1)) x d) := by
  unfold Ch.wsum; rw [List.range_succ, List.map_append, List.sum_append]; simp
theorem Ch.wsum_all (c : Ch) (b n k x : Nat) : c.wsum b n k x b = c.ways b n (k + 1) x := rfl
theorem sum_le_mul {l : List Nat} {m : Nat} (h : ∀ x ∈ l, x ≤ m) : l.sum ≤ l.length * m := by
  induction l with
  | nil => simp
  | cons a r ih =>
    rw [List.sum_cons, List.length_cons, Nat.succ_mul]
    have h1 := h a (by simp)
    have h2 := ih fun x hx => h x (by simp [hx])
    omega
theorem Ch.ways_le (c : Ch) (b n : Nat) : ∀ k x, c.ways b n k x ≤ b ^ k
  | 0, x => by unfold Ch.ways; split <;> simp
  | k + 1, x => by
    unfold Ch.ways
    have := sum_le_mul (l := (List.range b).map fun d => c.ways b n k (c.nx (n - (k + 1)) x d)) (m := b ^ k) (fun y hy => by
      simp only [List.mem_map] at hy
      obtain ⟨d, _, rfl⟩ := hy
      exact Ch.ways_le c b n k _)
    simp at this
    rw [Nat.pow_succ, Nat.mul_comm]; exact this
theorem Ch.wsum_le (c : Ch) (b n k x : Nat) {d : Nat} (hd : d ≤ b) : c.wsum b n k x d ≤ b ^ (k + 1) := by
  have := sum_le_mul (l := (List.range d).map fun d => c.ways b n k (c.nx (n - (k + 1)) x d)) (m := b ^ k) (fun y hy => by
    simp only [List.mem_map] at hy
    obtain ⟨d, _, rfl⟩ := hy
    exact Ch.ways_le c b n k _)
  simp at this
  have h2 : d * b ^ k ≤ b * b ^ k := Nat.mul_le_mul_right _ hd
  have e : b ^ (k + 1) = b * b ^ k := by rw [Nat.pow_succ, Nat.mul_comm]
  unfold Ch.wsum
  omega
theorem Ch.Fine.pow_le {c : Ch} {b s n : Nat} (f : c.Fine b s n) {k : Nat} (hk : k ≤ n) : b ^ k ≤ 1000000000000000 :=
  Nat.le_trans (Nat.pow_le_pow_right (by have := f.b2; omega) hk) f.lim

/-- The row of a place: for each state the number of ways to the end. -/
def Ch.wrow (c : Ch) (b s n i : Nat) : List Int := (List.range s).map fun x => ((c.ways b n (n - i) x : Nat) : Int)
def Ch.wgrid (c : Ch) (b s n : Nat) : List (List Int) := (List.range (n + 1)).map fun i => c.wrow b s n i

/-- The grid of the ways, filled from behind: rows from i + 1 on, of row i the states less than x, and of x the first d symbols. -/
def Ch.fill (c : Ch) (b n i x d : Nat) (j y : Nat) : Nat :=
  if i < j then c.ways b n (n - j) y else if j = i then (if y < x then c.ways b n (n - i) y else if y = x then c.wsum b n (n - (i + 1)) x d else 0) else 0
def Ch.full (c : Ch) (b n k : Nat) (j y : Nat) : Nat := if k ≤ j then c.ways b n (n - j) y else 0
theorem fill_start (c : Ch) (b n i : Nat) (j y : Nat) : c.full b n (i + 1) j y = c.fill b n i 0 0 j y := by
  unfold Ch.full Ch.fill
  by_cases h1 : i < j
  · rw [if_pos (by omega), if_pos h1]
  · rw [if_neg (by omega), if_neg h1]
    by_cases h2 : j = i
    · rw [if_pos h2, if_neg (by omega)]
      by_cases h3 : y = 0
      · rw [if_pos h3, Ch.wsum_zero]
      · rw [if_neg h3]
    · rw [if_neg h2]
theorem fill_next {c : Ch} {b n i x : Nat} (hi : i < n) (j y : Nat) : c.fill b n i x b j y = c.fill b n i (x + 1) 0 j y := by
  unfold Ch.fill
  split
  · rfl
  · split
    · by_cases h1 : y < x
      · rw [if_pos h1, if_pos (by omega)]
      · rw [if_neg h1]
        by_cases h2 : y = x
        · rw [if_pos h2, if_pos (by omega), Ch.wsum_all, h2, show n - (i + 1) + 1 = n - i by omega]
        · rw [if_neg h2, if_neg (by omega)]
          by_cases h3 : y = x + 1
          · rw [if_pos h3, Ch.wsum_zero]
          · rw [if_neg h3]
    · rfl
theorem fill_end {c : Ch} {b n i s : Nat} (j y : Nat) (hy : y < s) : c.fill b n i s 0 j y = c.full b n i j y := by
  unfold Ch.full Ch.fill
  by_cases h1 : i < j
  · rw [if_pos h1, if_pos (by omega)]
  · rw [if_neg h1]
    by_cases h2 : j = i
    · rw [if_pos h2, if_pos hy, if_pos (by omega), h2]
    · rw [if_neg h2, if_neg (by omega)]
theorem fill_step {c : Ch} {b n i x d : Nat} (j y : Nat) : c.fill b n i x (d + 1) j y = if j = i ∧ y = x then c.wsum b n (n - (i + 1)) x d + c.ways b n (n - (i + 1)) (c.nx (n - (n - (i + 1) + 1)) x d) else c.fill b n i x d j y := by
  unfold Ch.fill
  by_cases h : j = i ∧ y = x
  · rw [if_pos h, if_neg (by omega), if_pos h.1, if_neg (by omega), if_pos h.2, Ch.wsum_succ]
  · rw [if_neg h]
    by_cases h1 : i < j
    · rw [if_pos h1, if_pos h1]
    · rw [if_neg h1, if_neg h1]
      by_cases h2 : j = i
      · rw [if_pos h2, if_pos h2]
        by_cases h3 : y < x
        · rw [if_pos h3, if_pos h3]
        · rw [if_neg h3, if_neg h3, if_neg (fun e => h ⟨h2, e⟩), if_neg (fun e => h ⟨h2, e⟩)]
      · rw [if_neg h2, if_neg h2]
end Go.Proofs.Yteggllmiapdmcaa
