/-
  Contracts of GcdOf, of the program and of the model: both return the same number, for every input.
-/
import Derived.Test.YtakkehjfdeghoabBasic
import Derived.Deep.QuietTactic
import Derived.BigQuiet
namespace Go.Proofs.Ytakkehjfdeghoab
open Go.RowKit

def gcdV (a b : Int) : Int := (Nat.gcd a.toNat b.toNat : Nat)
def gcdOk (a b : Int) : Bool := inB a 0 1000000000000000 && inB b 0 1000000000000000
def gcdR (a b : Int) : Int := if gcdOk a b = true then gcdV a b else 0

theorem gcd_step (x y : Nat) : Nat.gcd x y = Nat.gcd y (x % y) := by
  rw [Nat.gcd_comm x y]; exact (Nat.gcd_rec y x).trans (Nat.gcd_comm _ _)

set_option maxHeartbeats 400000 in
theorem l01Gcd_any (x y : Nat) (w : World) (h1 : x ≤ 1000000000000000) (h2 : y ≤ 1000000000000000) :
    Calls Try.prog 98 #[.int .i64 x, .int .i64 y] w fun e w' => e = .returned (.int .i64 (Nat.gcd x y)) ∧ w = w' := by
  go_enter Try.func98, Try.ntmps98
  go_wp2
  go_loop [0, 1, 5] (fun a b _ => ∃ p q : Nat, p ≤ 1000000000000000 ∧ q ≤ 1000000000000000 ∧ a = .int .i64 p ∧ b = .int .i64 q ∧ Hid (Nat.gcd p q = Nat.gcd x y)) (fun _ b _ => (intOf b).toNat)
  case atStart => exact ⟨x, y, h1, h2, rfl, rfl, Lib.hid rfl⟩
  case round =>
    obtain ⟨p, q, hp, hq, rfl, rfl, hg⟩ := hrel
    by_cases hz : 0 < q
    · have hm : p % q < q := Nat.mod_lt _ hz
      go_wp2
      go_round
      case rel => exact ⟨q, p % q, hq, by omega, rfl, by simp, Lib.hid ((gcd_step p q).symm.trans hg.out)⟩
      case measure => simp [intOf]; omega
    · obtain rfl : q = 0 := by omega
      go_wp2
      go_ret
      exact ⟨ret_int (by rw [← hg.out]; simp), rfl⟩
set_option maxHeartbeats 400000 in
theorem implGcd_yes (x y : Nat) (w : World) (h1 : x ≤ 1000000000000000) (h2 : y ≤ 1000000000000000) :
    Calls Try.prog 99 #[.int .i64 x, .int .i64 y] w fun e w' => e = two (Nat.gcd x y) true ∧ ∃ n, w' = w.drewN n := by
  have i1 : inB x 0 1000000000000000 = true := inB_true.2 (by omega)
  have i2 : inB y 0 1000000000000000 = true := inB_true.2 (by omega)
  go_enter Try.func99, Try.ntmps99
  go_wp2_with (go_at_call 75; (with_reducible refine (within_any _ _ _ _).mono ?_); rintro e w' ⟨rfl, rfl⟩)
  go_loopw [0, 1] (fun a b wr => ∃ p q : Nat, p ≤ 1000000000000000 ∧ q ≤ 1000000000000000 ∧ a = .int .i64 p ∧ b = .int .i64 q ∧ Hid (Nat.gcd p q = Nat.gcd x y) ∧ ∃ n, wr = w.drewN n) (fun _ b _ => (intOf b).toNat)
  case atStart => exact ⟨x, y, h1, h2, rfl, rfl, Lib.hid rfl, 0, rfl⟩
  case round =>
    obtain ⟨p, q, hp, hq, rfl, rfl, hg, n, rfl⟩ := hrel
    by_cases hz : 0 < q
    · have hm : p % q < q := Nat.mod_lt _ hz
      have hne : ((q : Int) == 0) = false := by simp; omega
      have hne2 : ((q : Int) != 0) = true := by simp; omega
      go_wp2
      go_quiet (fail)
      go_wp2

      go_roundw
      case rel => exact ⟨q, p % q, hq, by omega, rfl, by simp, Lib.hid ((gcd_step p q).symm.trans hg.out), _, World.drewN_drewN _ _ _⟩
      case measure => simp [intOf]; omega
    · obtain rfl : q = 0 := by omega
      go_wp2
      go_ret2
      exact ⟨two_eq (by rw [← hg.out]; simp) rfl, n, rfl⟩
set_option maxHeartbeats 400000 in
theorem implGcd_any (a b : Int) (w : World) :
    Calls Try.prog 99 #[.int .i64 a, .int .i64 b] w fun e w' => e = two (gcdR a b) (gcdOk a b) ∧ ∃ n, w' = w.drewN n := by
  rcases h1 : inB a 0 1000000000000000 with _ | _
  · have H : Hid (gcdOk a b = false) := Lib.hid (by simp [gcdOk, h1])
    go_enter Try.func99, Try.ntmps99
    go_wp2_with (go_at_call 75; (with_reducible refine (within_any _ _ _ _).mono ?_); rintro e w' ⟨rfl, rfl⟩)
    go_ret2
    exact ⟨two_eq (by simp [gcdR, H.out]) H.out.symm, 0, rfl⟩
  · rcases h2 : inB b 0 1000000000000000 with _ | _
    · have H : Hid (gcdOk a b = false) := Lib.hid (by simp [gcdOk, h1, h2])
      go_enter Try.func99, Try.ntmps99
      go_wp2_with (go_at_call 75; (with_reducible refine (within_any _ _ _ _).mono ?_); rintro e w' ⟨rfl, rfl⟩)
      go_ret2
      exact ⟨two_eq (by simp [gcdR, H.out]) H.out.symm, 0, rfl⟩
    · have H : gcdOk a b = true := by simp [gcdOk, h1, h2]
      have b1 := inB_true.1 h1
      have b2 := inB_true.1 h2
      obtain ⟨x, rfl⟩ := Int.eq_ofNat_of_zero_le b1.1
      obtain ⟨y, rfl⟩ := Int.eq_ofNat_of_zero_le b2.1
      refine (implGcd_yes x y w (by omega) (by omega)).mono ?_
      rintro e w' ⟨rfl, hw⟩
      exact ⟨two_eq (by simp [gcdR, gcdV, H]) H.symm, hw⟩
end Go.Proofs.Ytakkehjfdeghoab
