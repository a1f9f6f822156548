/-
  Tests that go row by row, and powers below the limit of words.
-/
import Derived.Test.YtfmlmgebomapjabDoorBasic
namespace Go.Proofs.YtfmlmgebomapjabDoor
open Go.RowKit

def limOk (base : Int) (n : Nat) : Bool := decide (base ^ n ≤ 1000000000000000)
theorem all_bad {α : Type} {p : α → Bool} {l : List α} {k : Nat} {x : α} (h : l[k]? = some x) (hx : p x = false) : l.all p = false := by
  rw [List.all_eq_false]; exact ⟨x, List.mem_of_getElem? h, by simp [hx]⟩
theorem all_step {α : Type} {p : α → Bool} {l : List α} {k : Nat} {x : α} (h : l[k]? = some x) (ha : (l.take k).all p = true) (hx : p x = true) : (l.take (k + 1)).all p = true := by
  rw [List.take_add_one, h]; simp [ha, hx]
theorem all_end {α : Type} {p : α → Bool} {l : List α} {k : Nat} (hl : l.length ≤ k) (ha : (l.take k).all p = true) : l.all p = true := by
  rwa [List.take_of_length_le hl] at ha

def cap15 (base : Int) (k : Nat) : Int := min (base ^ k) 1000000000000001
theorem pow_pos' {base : Int} (h : 2 ≤ base) (k : Nat) : 1 ≤ base ^ k := by
  induction k with
  | zero => simp
  | succ k ih =>
    rw [Int.pow_succ]
    have : 1 * 1 ≤ base ^ k * base := Int.mul_le_mul ih (by omega) (by omega) (by omega)
    omega
theorem cap_step {base : Int} (h : 2 ≤ base) (k : Nat) : min (cap15 base k * base) 1000000000000001 = cap15 base (k + 1) := by
  unfold cap15
  rw [Int.pow_succ]
  have h1 := pow_pos' h k
  generalize base ^ k = x at *
  by_cases hx : x ≤ 1000000000000001
  · rw [Int.min_eq_left hx]
  · rw [Int.min_eq_right (by omega : (1000000000000001 : Int) ≤ x)]
    have h2 : 1000000000000001 * 1 ≤ 1000000000000001 * base := Int.mul_le_mul_of_nonneg_left (by omega) (by omega)
    have h3 : 1000000000000001 * 1 ≤ x * base := Int.mul_le_mul (by omega) (by omega) (by omega) (by omega)
    rw [Int.min_eq_right (by omega), Int.min_eq_right (by omega)]
theorem cap_bd {base : Int} (h : 2 ≤ base) (k : Nat) : 1 ≤ cap15 base k ∧ cap15 base k ≤ 1000000000000001 := by
  have := pow_pos' h k
  unfold cap15
  omega
theorem cap_lim (base : Int) (k : Nat) : decide (cap15 base k ≤ 1000000000000000) = limOk base k := by
  unfold cap15 limOk
  congr 1
  apply propext
  omega
theorem pow_mono' {base : Int} (h : 2 ≤ base) {j k : Nat} (hjk : j ≤ k) : base ^ j ≤ base ^ k := by
  obtain ⟨d, rfl⟩ := Nat.exists_eq_add_of_le hjk
  rw [Int.pow_add]
  have h1 := pow_pos' h j
  have h2 := pow_pos' h d
  have : base ^ j * 1 ≤ base ^ j * base ^ d := Int.mul_le_mul_of_nonneg_left h2 (by omega)
  omega
theorem lim_bad {base : Int} (h : 2 ≤ base) {j k : Nat} (hjk : j ≤ k) (hx : 1000000000000000 < base ^ j) : limOk base k = false := by
  have := pow_mono' h hjk
  unfold limOk
  simp
  omega
end Go.Proofs.YtfmlmgebomapjabDoor
