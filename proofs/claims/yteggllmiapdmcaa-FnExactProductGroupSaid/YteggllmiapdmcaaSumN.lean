/-
  Sums over numbers below a number, and pairs that are counted in two orders.
-/
import Derived.Test.YteggllmiapdmcaaBasic
namespace Go.Proofs.Yteggllmiapdmcaa
open Go.RowKit

def sumN (f : Nat → Nat) : Nat → Nat
  | 0 => 0
  | k + 1 => sumN f k + f k
def b1 (b : Bool) : Nat := if b then 1 else 0
theorem b1_true : b1 true = 1 := rfl
theorem b1_false : b1 false = 0 := rfl
theorem b1_le (b : Bool) : b1 b ≤ 1 := by cases b <;> decide
theorem sumN_succ (f : Nat → Nat) (k : Nat) : sumN f (k + 1) = sumN f k + f k := rfl
theorem sumN_congr {f g : Nat → Nat} : ∀ k, (∀ i, i < k → f i = g i) → sumN f k = sumN g k
  | 0, _ => rfl
  | k + 1, h => by rw [sumN_succ, sumN_succ, sumN_congr k (fun i hi => h i (by omega)), h k (by omega)]
theorem sumN_zero {f : Nat → Nat} : ∀ k, (∀ i, i < k → f i = 0) → sumN f k = 0
  | 0, _ => rfl
  | k + 1, h => by rw [sumN_succ, sumN_zero k (fun i hi => h i (by omega)), h k (by omega)]
theorem sumN_le {f : Nat → Nat} {m : Nat} : ∀ k, (∀ i, i < k → f i ≤ m) → sumN f k ≤ k * m
  | 0, _ => Nat.zero_le _
  | k + 1, h => by
    have h1 := sumN_le k (fun i hi => h i (by omega))
    have h2 := h k (by omega)
    rw [sumN_succ, Nat.add_mul]
    omega
theorem sumN_mono {f : Nat → Nat} {a b : Nat} (h : a ≤ b) : sumN f a ≤ sumN f b := by
  induction b with
  | zero => have : a = 0 := by omega
            rw [this]; exact Nat.le_refl _
  | succ b ih =>
    by_cases e : a = b + 1
    · rw [e]; exact Nat.le_refl _
    · have := ih (by omega)
      rw [sumN_succ]; omega
theorem sumN_add (f g : Nat → Nat) : ∀ k, sumN (fun i => f i + g i) k = sumN f k + sumN g k
  | 0 => rfl
  | k + 1 => by rw [sumN_succ, sumN_succ, sumN_succ, sumN_add f g k]; omega
theorem sumN_swap (g : Nat → Nat → Nat) (m : Nat) : ∀ n, sumN (fun x => sumN (fun y => g x y) m) n = sumN (fun y => sumN (fun x => g x y) n) m
  | 0 => (sumN_zero m (fun i _ => rfl)).symm
  | n + 1 => by
    rw [sumN_succ, sumN_swap g m n, ← sumN_add]
    exact sumN_congr m (fun y _ => rfl)
/-- Behind k all summands are 0. -/
theorem sumN_stop {f : Nat → Nat} {k : Nat} : ∀ n, k ≤ n → (∀ i, k ≤ i → i < n → f i = 0) → sumN f n = sumN f k
  | 0, h, _ => by have : k = 0 := by omega
                  rw [this]
  | n + 1, h, hz => by
    by_cases e : k = n + 1
    · rw [e]
    · rw [sumN_succ, sumN_stop n (by omega) (fun i h1 h2 => hz i h1 (by omega)), hz n (by omega) (by omega)]; rfl

/-- The pairs x < y that clash, y by y. -/
def pairsY (cl : Nat → Nat → Bool) (n : Nat) : Nat := sumN (fun y => sumN (fun x => b1 (cl x y)) y) n
/-- The pairs x < y that clash, x by x. -/
def pairX (cl : Nat → Nat → Bool) (x y : Nat) : Nat := if x < y then b1 (cl x y) else 0
def pairsX (cl : Nat → Nat → Bool) (n : Nat) : Nat := sumN (fun x => sumN (pairX cl x) n) n
theorem pairs_eq (cl : Nat → Nat → Bool) (n : Nat) : pairsX cl n = pairsY cl n := by
  unfold pairsX pairsY
  rw [sumN_swap (fun x y => pairX cl x y)]
  refine sumN_congr n (fun y hy => ?_)
  rw [sumN_stop (k := y) n (by omega) (fun i h1 _ => by unfold pairX; rw [if_neg (by omega)])]
  exact sumN_congr y (fun x hx => by unfold pairX; rw [if_pos hx])
theorem pairX_start (cl : Nat → Nat → Bool) (x : Nat) : sumN (pairX cl x) (x + 1) = 0 :=
  sumN_zero _ (fun i hi => by unfold pairX; rw [if_neg (by omega)])
theorem pairX_next (cl : Nat → Nat → Bool) {x y : Nat} (h : x < y) : sumN (pairX cl x) (y + 1) = sumN (pairX cl x) y + b1 (cl x y) := by
  rw [sumN_succ]; unfold pairX; rw [if_pos h]
theorem pairX_le (cl : Nat → Nat → Bool) (x y : Nat) : pairX cl x y ≤ 1 := by
  unfold pairX
  split
  · exact b1_le _
  · omega
theorem pairsX_le (cl : Nat → Nat → Bool) {n : Nat} (hn : n ≤ 36) : pairsX cl n ≤ 1296 := by
  have h : pairsX cl n ≤ n * 36 := sumN_le n (fun x _ => Nat.le_trans (sumN_le (m := 1) n (fun y _ => pairX_le cl x y)) (by omega))
  have : n * 36 ≤ 36 * 36 := Nat.mul_le_mul_right _ hn
  omega
theorem partX_le (cl : Nat → Nat → Bool) {n x y : Nat} (hn : n ≤ 36) (hx : x ≤ n) (hy : y ≤ n) : sumN (fun x => sumN (pairX cl x) n) x + sumN (pairX cl x) y ≤ 1332 := by
  have h1 : sumN (fun x => sumN (pairX cl x) n) x ≤ pairsX cl n := sumN_mono hx
  have h2 := pairsX_le cl hn
  have h3 : sumN (pairX cl x) y ≤ y * 1 := sumN_le y (fun i _ => pairX_le cl x i)
  omega
theorem partY_le (cl : Nat → Nat → Bool) {n x y : Nat} (hn : n ≤ 36) (hx : x ≤ y) (hy : y ≤ n) : sumN (fun y => sumN (fun x => b1 (cl x y)) y) y + sumN (fun x => b1 (cl x y)) x ≤ 1332 := by
  have h1 : sumN (fun y => sumN (fun x => b1 (cl x y)) y) y ≤ pairsY cl n := sumN_mono hy
  have h2 := pairsX_le cl hn
  rw [pairs_eq] at h2
  have h3 : sumN (fun x => b1 (cl x y)) x ≤ x * 1 := sumN_le x (fun i _ => b1_le _)
  omega
end Go.Proofs.Yteggllmiapdmcaa
