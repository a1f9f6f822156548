/-
  Contracts of InverseOf, of the program and of the model: both return the least inverse, for every input.
-/
import Derived.Test.YtlgoopjbjamlmaaBasic
namespace Go.Proofs.Ytlgoopjbjamlmaa
open Go.RowKit

def invP (a m x : Nat) : Bool := a * x % m == 1
def invF (a m : Nat) : Option Nat := (List.range m).find? (invP a m)
theorem inv_hit {a m k : Nat} (h : ∀ j, j < k → invP a m j = false) (hk : k < m) (hp : invP a m k = true) : invF a m = some k := by
  unfold invF
  rw [List.find?_range_eq_some]
  exact ⟨hp, List.mem_range.2 hk, fun j hj => by simp [h j hj]⟩
theorem inv_miss {a m : Nat} (h : ∀ j, j < m → invP a m j = false) : invF a m = none := by
  unfold invF
  rw [List.find?_eq_none]
  intro x hx
  simp [h x (List.mem_range.1 hx)]
theorem inv_next {a m k : Nat} (h : ∀ j, j < k → invP a m j = false) (hk : invP a m k = false) : ∀ j, j < k + 1 → invP a m j = false := by
  intro j hj
  by_cases e : j = k
  · rw [e]; exact hk
  · exact h j (by omega)
def invIn (a m : Int) : Bool := inB m 2 1000 && inB a 0 (m - 1)
def invOk (a m : Int) : Bool := invIn a m && (invF a.toNat m.toNat).isSome
def invR (a m : Int) : Int := if invIn a m = true then (((invF a.toNat m.toNat).getD 0 : Nat) : Int) else 0
theorem inv_bd {a m x : Nat} (h1 : m ≤ 1000) (h2 : a < m) (h3 : x < m) : (a : Int) * (x : Int) ≤ 1000000 ∧ 0 ≤ (a : Int) * (x : Int) := by
  have h := Nat.mul_le_mul (show a ≤ 1000 by omega) (show x ≤ 1000 by omega)
  have e : ((a * x : Nat) : Int) = (a : Int) * (x : Int) := Int.natCast_mul a x
  omega
theorem inv_test {a m x : Nat} : ((a : Int) * (x : Int) % (m : Int) == 1) = invP a m x := by
  unfold invP
  rw [Bool.eq_iff_iff]
  simp only [beq_iff_eq]
  have e : ((a * x % m : Nat) : Int) = (a : Int) * (x : Int) % (m : Int) := by simp
  omega

set_option maxHeartbeats 400000 in
theorem implInverse_yes (a m : Nat) (w : World) (h1 : 2 ≤ m) (h2 : m ≤ 1000) (h3 : a < m) :
    Calls Try.prog 13 #[.int .i64 a, .int .i64 m] w fun e w' => e = two (((invF a m).getD 0 : Nat) : Int) (invF a m).isSome ∧ w = w' := by
  have i1 : inB m 2 1000 = true := inB_true.2 (by omega)
  have i2 : inB a 0 ((m : Int) - 1) = true := inB_true.2 (by omega)
  go_enter Try.func13, Try.ntmps13
  go_wp2_with (go_at_call 36; (with_reducible refine (within_any _ _ _ _).mono ?_); rintro e w' ⟨rfl, rfl⟩)
  go_loop [6, 18] (fun _ x => ∃ k : Nat, k ≤ m ∧ x = .int .i64 k ∧ Hid (∀ j, j < k → invP a m j = false)) (fun _ x => m - (intOf x).toNat)
  case atStart => exact ⟨0, by omega, rfl, Lib.hid (fun j hj => absurd hj (by omega))⟩
  case round =>
    obtain ⟨k, hk, rfl, hg⟩ := hrel
    by_cases hlt : k < m
    · have hb := inv_bd h2 h3 hlt
      have ht := @inv_test a m k
      rcases hp : invP a m k with _ | _
      · rw [hp] at ht
        have HP := Lib.hid hp
        clear hp
        go_wp2
        go_round
        case rel => exact ⟨k + 1, by omega, by go_num, Lib.hid (inv_next hg.out HP.out)⟩
        case measure => simp [intOf]; omega
      · rw [hp] at ht
        have HP := Lib.hid hp
        clear hp
        go_wp2
        go_ret2
        exact ⟨two_eq (by rw [inv_hit hg.out hlt HP.out]; rfl) (by rw [inv_hit hg.out hlt HP.out]; rfl), rfl⟩
    · obtain rfl : k = m := by omega
      go_wp2
      go_ret2
      exact ⟨two_eq (by rw [inv_miss hg.out]; rfl) (by rw [inv_miss hg.out]; rfl), rfl⟩

set_option maxHeartbeats 400000 in
theorem implInverse_any (a m : Int) (w : World) :
    Calls Try.prog 13 #[.int .i64 a, .int .i64 m] w fun e w' => e = two (invR a m) (invOk a m) ∧ w = w' := by
  rcases h1 : inB m 2 1000 with _ | _
  · have H : Hid (invIn a m = false) := Lib.hid (by simp [invIn, h1])
    go_enter Try.func13, Try.ntmps13
    go_wp2_with (go_at_call 36; (with_reducible refine (within_any _ _ _ _).mono ?_); rintro e w' ⟨rfl, rfl⟩)
    go_ret2
    exact ⟨two_eq (by simp [invR, H.out]) (by simp [invOk, H.out]), rfl⟩
  · have b1 := inB_true.1 h1
    rcases h2 : inB a 0 (m - 1) with _ | _
    · have H : Hid (invIn a m = false) := Lib.hid (by simp [invIn, h1, h2])
      go_enter Try.func13, Try.ntmps13
      go_wp2_with (go_at_call 36; (with_reducible refine (within_any _ _ _ _).mono ?_); rintro e w' ⟨rfl, rfl⟩)
      go_ret2
      exact ⟨two_eq (by simp [invR, H.out]) (by simp [invOk, H.out]), rfl⟩
    · have H : invIn a m = true := by simp [invIn, h1, h2]
      have b2 := inB_true.1 h2
      obtain ⟨x, rfl⟩ := Int.eq_ofNat_of_zero_le b2.1
      obtain ⟨y, rfl⟩ := Int.eq_ofNat_of_zero_le (show 0 ≤ m by omega)
      refine (implInverse_yes x y w (by omega) (by omega) (by omega)).mono ?_
      rintro e w' ⟨rfl, rfl⟩
      exact ⟨two_eq (by simp [invR, H]) (by simp [invOk, H]), rfl⟩
end Go.Proofs.Ytlgoopjbjamlmaa
