/-
  The walk of the law FnInverses: an inverse exists exactly if the numbers have no divisor in common, and remainders differ by multiples.
-/
import Derived.Test.YtlgoopjbjamlmaaRem
import Derived.Test.YtlgoopjbjamlmaaGcd
import Derived.Test.YtlgoopjbjamlmaaInv
import Derived.Test.YtlgoopjbjamlmaaAt
namespace Go.Proofs.Ytlgoopjbjamlmaa
open Go.RowKit

/-! Numbers: an inverse modulo m and the greatest common divisor. -/
theorem inv_gcd {a m x : Nat} (h : a * x % m = 1) : Nat.gcd a m = 1 := by
  have h1 : Nat.gcd a m ∣ a * x := Nat.dvd_trans (Nat.gcd_dvd_left a m) (Nat.dvd_mul_right a x)
  have h2 : Nat.gcd a m ∣ m := Nat.gcd_dvd_right a m
  have h3 : Nat.gcd a m ∣ a * x % m := (Nat.dvd_mod_iff h2).2 h1
  rw [h] at h3
  exact Nat.dvd_one.1 h3
theorem bezout (a b : Nat) : ∃ u v : Int, (a : Int) * u + (b : Int) * v = (Nat.gcd a b : Nat) := by
  induction a, b using Nat.gcd.induction with
  | H0 n => exact ⟨0, 1, by simp⟩
  | H1 m n _ ih =>
    obtain ⟨u, v, h⟩ := ih
    refine ⟨v - ((n / m : Nat) : Int) * u, u, ?_⟩
    rw [Nat.gcd_rec m n, ← h]
    have e : ((n % m : Nat) : Int) = (n : Int) - (m : Int) * ((n / m : Nat) : Int) := by
      have := Nat.div_add_mod n m
      have h2 : ((m * (n / m) + n % m : Nat) : Int) = (n : Int) := by rw [this]
      rw [Int.natCast_add, Int.natCast_mul] at h2
      omega
    rw [e, Int.mul_sub, Int.sub_mul, Int.mul_assoc]
    omega
theorem gcd_inv {a m : Nat} (hm : 2 ≤ m) (h : Nat.gcd a m = 1) : ∃ x, x < m ∧ a * x % m = 1 := by
  obtain ⟨u, v, hb⟩ := bezout a m
  rw [h] at hb
  have hm0 : (0 : Int) < m := by omega
  have n0 := Int.emod_nonneg u (b := (m : Int)) (by omega)
  have n1 := Int.emod_lt_of_pos u hm0
  refine ⟨(u % (m : Int)).toNat, by omega, ?_⟩
  have e : (((a * (u % (m : Int)).toNat % m : Nat)) : Int) = 1 := by
    rw [Int.natCast_emod, Int.natCast_mul, Int.toNat_of_nonneg n0, Int.mul_emod, Int.emod_emod_of_dvd _ (Int.dvd_refl _), ← Int.mul_emod]
    have e2 : (a : Int) * u = 1 + (m : Int) * (-v) := by rw [Int.mul_neg]; omega
    rw [e2, Int.add_mul_emod_self_left]
    exact Int.emod_eq_of_lt (by omega) (by omega)
  omega
theorem invF_some {a m : Nat} (hm : 2 ≤ m) (h : Nat.gcd a m = 1) : ∃ x, invF a m = some x ∧ x < m ∧ a * x % m = 1 := by
  rcases hf : invF a m with _ | x
  · exfalso
    obtain ⟨x, hx, he⟩ := gcd_inv hm h
    unfold invF at hf
    rw [List.find?_eq_none] at hf
    have := hf x (List.mem_range.2 hx)
    simp [invP, he] at this
  · refine ⟨x, rfl, ?_⟩
    unfold invF at hf
    rw [List.find?_range_eq_some] at hf
    exact ⟨List.mem_range.1 hf.2.1, by simpa [invP] using hf.1⟩
theorem invF_none {a m : Nat} (h : Nat.gcd a m ≠ 1) : invF a m = none := by
  rcases hf : invF a m with _ | x
  · rfl
  · exfalso
    unfold invF at hf
    rw [List.find?_range_eq_some] at hf
    exact h (inv_gcd (by simpa [invP] using hf.1))
theorem modZ_bd (a m : Int) (h : 1 ≤ m) : 0 ≤ modZ a m ∧ modZ a m < m := by
  have := tmod_bd a m h
  unfold modZ
  split <;> omega
theorem modZ_sub (a m : Int) : (a - modZ a m).tmod m = 0 := by
  have h := Int.mul_tdiv_add_tmod a m
  unfold modZ
  split
  · have e : a - (a.tmod m + m) = m * (a.tdiv m - 1) := by rw [Int.mul_sub]; omega
    rw [e]; exact Int.mul_tmod_right _ _
  · have e : a - a.tmod m = m * a.tdiv m := by omega
    rw [e]; exact Int.mul_tmod_right _ _

set_option maxRecDepth 100000 in
set_option maxHeartbeats 1000000 in
theorem inverses_walk (a0 a1 : Option Addr) (l0 c0 l1 c1 : Nat) (z0 z1 : List Int) (w : World) (r0 : Row .u8 w a0 l0 z0) (r1 : Row .u8 w a1 l1 z1) :
    Calls Try.prog 3 #[.slice a0 l0 c0, .slice a1 l1 c1] w fun e w' => e = .returned (.bool true) ∧ ∃ n, w' = w.drewN n := by
  rcases hl : decide (1048576 < l0 ∨ 1048576 < l1) with _ | _
  · have L : ∀ W, Calls Try.prog 11 #[.slice a0 l0 c0, .slice a1 l1 c1] W fun e w' => e = .returned (.bool false) ∧ W = w' := fun W => hl ▸ b10Long_any a0 a1 l0 c0 l1 c1 W r0.2.1 r1.2.1
    obtain ⟨p, hp⟩ := Int.eq_ofNat_of_zero_le (atV_bd z0 (0 : Nat) 250 (by omega)).1
    have bp := (atV_bd z0 (0 : Nat) 250 (by omega)).2
    rw [hp] at bp
    have A0 : Calls Try.prog 12 #[.slice a0 l0 c0, .int .i64 0, .int .i64 250] w fun e w' => e = .returned (.int .i64 p) ∧ w = w' := hp ▸ b10At_any a0 l0 c0 0 250 z0 w r0 (by omega) (by omega)
    obtain ⟨q, hq⟩ := Int.eq_ofNat_of_zero_le (atV_bd z0 (1 : Nat) (2 + (p : Int)) (by omega)).1
    have bq := (atV_bd z0 (1 : Nat) (2 + (p : Int)) (by omega)).2
    rw [hq] at bq
    have A1 : Calls Try.prog 12 #[.slice a0 l0 c0, .int .i64 1, .int .i64 (2 + (p : Int))] w fun e w' => e = .returned (.int .i64 q) ∧ w = w' := hq ▸ b10At_any a0 l0 c0 1 (2 + (p : Int)) z0 w r0 (by omega) (by omega)
    obtain ⟨s, hs⟩ := Int.eq_ofNat_of_zero_le (atV_bd z1 (0 : Nat) 256 (by omega)).1
    have bs := (atV_bd z1 (0 : Nat) 256 (by omega)).2
    rw [hs] at bs
    have A2 : ∀ k, Calls Try.prog 12 #[.slice a1 l1 c1, .int .i64 0, .int .i64 256] (w.drewN k) fun e w' => e = .returned (.int .i64 s) ∧ w.drewN k = w' := fun k => hs ▸ b10At_any a1 l1 c1 0 256 z1 (w.drewN k) (r1.drewN k) (by omega) (by omega)
    obtain ⟨t, ht⟩ := Int.eq_ofNat_of_zero_le (atV_bd z1 (1 : Nat) 256 (by omega)).1
    have bt := (atV_bd z1 (1 : Nat) 256 (by omega)).2
    rw [ht] at bt
    have A3 : ∀ k, Calls Try.prog 12 #[.slice a1 l1 c1, .int .i64 1, .int .i64 256] (w.drewN k) fun e w' => e = .returned (.int .i64 t) ∧ w.drewN k = w' := fun k => ht ▸ b10At_any a1 l1 c1 1 256 z1 (w.drewN k) (r1.drewN k) (by omega) (by omega)
    clear hp hq hs ht hl r0 r1
    have em : ((2 + p : Nat) : Int) = 2 + (p : Int) := by omega
    -- the calls of the program, at these numbers
    have I0 : Calls Try.prog 13 #[.int .i64 q, .int .i64 (2 + (p : Int))] w fun e w' => e = two (((invF q (2 + p)).getD 0 : Nat) : Int) (invF q (2 + p)).isSome ∧ w = w' := em ▸ implInverse_yes q (2 + p) w (by omega) (by omega) (by omega)
    have G0 : Calls Try.prog 14 #[.int .i64 q, .int .i64 (2 + (p : Int))] w fun e w' => e = two (Nat.gcd q (2 + p)) true ∧ ∃ n, w' = w.drewN n := em ▸ implGcd_yes q (2 + p) w (by omega) (by omega)
    have B0 : ∀ W, Calls Try.prog 16 #[.int .i64 q, .int .i64 (2 + (p : Int))] W fun e w' => e = .returned (.int .i64 (Nat.gcd q (2 + p))) ∧ W = w' := fun W => em ▸ b10Gcd_any q (2 + p) W (by omega) (by omega)
    obtain ⟨N, hN⟩ : ∃ N : Int, 256 * (s : Int) + t - 40000 = N := ⟨_, rfl⟩
    have hok : remOk N (2 + (p : Int)) = true := by simp only [remOk, Bool.and_eq_true, inB_true]; omega
    have hmd := modZ_bd N (2 + (p : Int)) (by omega)
    have hsub := modZ_sub N (2 + (p : Int))
    have hv : remV N (2 + (p : Int)) = modZ N (2 + (p : Int)) := by simp [remV, hok]
    obtain ⟨R, hR⟩ : ∃ R : Int, modZ N (2 + (p : Int)) = R := ⟨_, rfl⟩
    rw [hR] at hmd hsub hv
    have R0 : ∀ W, Calls Try.prog 15 #[.int .i64 (256 * (s : Int) + t - 40000), .int .i64 (2 + (p : Int))] W fun e w' => e = two R true ∧ W = w' := by
      intro W
      have := implRemainder_any N (2 + (p : Int)) W
      rw [hv, hok] at this
      rw [hN]; exact this
    have hsub' : (256 * (s : Int) + t - 40000 - R).tmod (2 + (p : Int)) = 0 := by rw [hN]; exact hsub
    clear hok hR hv hN hsub em
    obtain ⟨hm1, hm2⟩ := hmd
    by_cases hg : Nat.gcd q (2 + p) = 1
    · obtain ⟨x, hx, hxm, he⟩ := invF_some (by omega) hg
      have ht0 := @inv_test q (2 + p) x
      have hb := inv_bd (a := q) (m := 2 + p) (x := x) (by omega) (by omega) hxm
      have htt : ((q : Int) * (x : Int) % (2 + (p : Int)) == 1) = true := by
        have : invP q (2 + p) x = true := by simp [invP, he]
        rw [this] at ht0
        simpa using ht0
      rw [hx] at I0
      rw [hg] at G0 B0
      clear ht0 hx he hg
      go_enter Try.func3, Try.ntmps3
      go_wp2_with (first | (go_at_call 11; (with_reducible refine (L _).mono ?_); rintro e w' ⟨rfl, rfl⟩) | (go_at_call 12; (with_reducible refine (A0).mono ?_); rintro e w' ⟨rfl, rfl⟩) | (go_at_call 12; (with_reducible refine (A1).mono ?_); rintro e w' ⟨rfl, rfl⟩) | (go_at_call 12; (with_reducible refine (A2 _).mono ?_); rintro e w' ⟨rfl, rfl⟩) | (go_at_call 12; (with_reducible refine (A3 _).mono ?_); rintro e w' ⟨rfl, rfl⟩) | (go_at_call 13; (with_reducible refine (I0).mono ?_); rintro e w' ⟨rfl, rfl⟩) | (go_at_call 14; (with_reducible refine (G0).mono ?_); rintro e w' ⟨rfl, n, rfl⟩) | (go_at_call 16; (with_reducible refine (B0 _).mono ?_); rintro e w' ⟨rfl, rfl⟩) | (go_at_call 15; (with_reducible refine (R0 _).mono ?_); rintro e w' ⟨rfl, rfl⟩))
      go_ret
      exact ⟨rfl, n, rfl⟩
    · have hx := invF_none hg
      obtain ⟨g, hgg⟩ : ∃ g, Nat.gcd q (2 + p) = g := ⟨_, rfl⟩
      rw [hx] at I0
      rw [hgg] at G0 B0 hg
      have hg1 : ((g : Int) == 1) = false := by simp; omega
      clear hgg hx
      go_enter Try.func3, Try.ntmps3
      go_wp2_with (first | (go_at_call 11; (with_reducible refine (L _).mono ?_); rintro e w' ⟨rfl, rfl⟩) | (go_at_call 12; (with_reducible refine (A0).mono ?_); rintro e w' ⟨rfl, rfl⟩) | (go_at_call 12; (with_reducible refine (A1).mono ?_); rintro e w' ⟨rfl, rfl⟩) | (go_at_call 12; (with_reducible refine (A2 _).mono ?_); rintro e w' ⟨rfl, rfl⟩) | (go_at_call 12; (with_reducible refine (A3 _).mono ?_); rintro e w' ⟨rfl, rfl⟩) | (go_at_call 13; (with_reducible refine (I0).mono ?_); rintro e w' ⟨rfl, rfl⟩) | (go_at_call 14; (with_reducible refine (G0).mono ?_); rintro e w' ⟨rfl, n, rfl⟩) | (go_at_call 16; (with_reducible refine (B0 _).mono ?_); rintro e w' ⟨rfl, rfl⟩) | (go_at_call 15; (with_reducible refine (R0 _).mono ?_); rintro e w' ⟨rfl, rfl⟩))
      go_ret
      exact ⟨rfl, n, rfl⟩
  · have L : ∀ W, Calls Try.prog 11 #[.slice a0 l0 c0, .slice a1 l1 c1] W fun e w' => e = .returned (.bool true) ∧ W = w' := fun W => hl ▸ b10Long_any a0 a1 l0 c0 l1 c1 W r0.2.1 r1.2.1
    clear hl
    go_enter Try.func3, Try.ntmps3
    go_wp2_with (go_at_call 11; (with_reducible refine (L _).mono ?_); rintro e w' ⟨rfl, rfl⟩)
    go_ret
    exact ⟨rfl, 0, rfl⟩
end Go.Proofs.Ytlgoopjbjamlmaa
