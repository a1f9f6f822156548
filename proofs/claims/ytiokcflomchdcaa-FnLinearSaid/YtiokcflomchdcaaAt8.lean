/-
  Contracts of r8Long, r8At and r8Gcd: numbers that are chosen by bytes.
-/
import Derived.Test.YtiokcflomchdcaaRow
namespace Go.Proofs.Ytiokcflomchdcaa
open Go.RowKit

theorem gcd_step8 (x y : Nat) : Nat.gcd x y = Nat.gcd y (x % y) := by
  rw [Nat.gcd_comm x y]; exact (Nat.gcd_rec y x).trans (Nat.gcd_comm _ _)
set_option maxHeartbeats 400000 in
theorem r8Gcd_any (x y : Nat) (w : World) (h1 : x ≤ 1000000000000000) (h2 : y ≤ 1000000000000000) :
    Calls Try.prog 29 #[.int .i64 x, .int .i64 y] w fun e w' => e = .returned (.int .i64 (Nat.gcd x y)) ∧ w = w' := by
  go_enter Try.func29, Try.ntmps29
  go_wp2
  go_loop [0, 1, 5] (fun a b _ => ∃ p q : Nat, p ≤ 1000000000000000 ∧ q ≤ 1000000000000000 ∧ a = .int .i64 p ∧ b = .int .i64 q ∧ Hid (Nat.gcd p q = Nat.gcd x y)) (fun _ b _ => (intOf b).toNat)
  case atStart => exact ⟨x, y, h1, h2, rfl, rfl, Lib.hid rfl⟩
  case round =>
    obtain ⟨p, q, hp, hq, rfl, rfl, hg⟩ := hrel
    by_cases hz : 0 < q
    · have hm : p % q < q := Nat.mod_lt _ hz
      go_wp2
      go_round
      case rel => exact ⟨q, p % q, hq, by omega, rfl, by simp, Lib.hid ((gcd_step8 p q).symm.trans hg.out)⟩
      case measure => simp [intOf]; omega
    · obtain rfl : q = 0 := by omega
      go_wp2
      go_ret
      exact ⟨ret_int (by rw [← hg.out]; simp), rfl⟩
def at8 (zs : List Int) (k : Nat) (n : Int) : Int := if n ≤ 1 ∨ zs.length ≤ k then 0 else zs.getD k 0 % n
theorem at8_bd (zs : List Int) (k : Nat) (n : Int) (hn : 1 ≤ n) : 0 ≤ at8 zs k n ∧ at8 zs k n < n := by
  unfold at8
  split
  · omega
  · exact ⟨Int.emod_nonneg _ (by omega), Int.emod_lt_of_pos _ (by omega)⟩

set_option maxHeartbeats 400000 in
theorem r8Long_any (a0 a1 : Option Addr) (l0 c0 l1 c1 : Nat) (w : World) (h0 : l0 ≤ maxLen) (h1 : l1 ≤ maxLen) :
    Calls Try.prog 21 #[.slice a0 l0 c0, .slice a1 l1 c1] w fun e w' => e = .returned (.bool (decide (48 < l0 ∨ 48 < l1))) ∧ w = w' := by
  unfold maxLen at h0 h1
  by_cases g0 : (48 : Int) < l0
  · go_enter Try.func21, Try.ntmps21
    go_wp2
    go_ret
    exact ⟨ret_bool (by simp; omega), rfl⟩
  · by_cases g1 : (48 : Int) < l1
    · go_enter Try.func21, Try.ntmps21
      go_wp2
      go_ret
      exact ⟨ret_bool (by simp; omega), rfl⟩
    · go_enter Try.func21, Try.ntmps21
      go_wp2
      go_ret
      exact ⟨ret_bool (by simp; omega), rfl⟩

set_option maxHeartbeats 400000 in
theorem r8At_any (A : Option Addr) (l c i : Nat) (n : Int) (zs : List Int) (w : World) (hr : Row .u8 w A l zs) (hn : n ≤ 1000000) :
    Calls Try.prog 27 #[.slice A l c, .int .i64 i, .int .i64 n] w fun e w' => e = .returned (.int .i64 (at8 zs i n)) ∧ w = w' := by
  have hle := hr.le
  by_cases h1 : n ≤ 1
  · have H : Hid (at8 zs i n = 0) := Lib.hid (by unfold at8; rw [if_pos (.inl h1)])
    go_enter Try.func27, Try.ntmps27
    go_wp2
    go_ret
    exact ⟨ret_int H.out.symm, rfl⟩
  · by_cases h2 : i < l
    · have H : Hid (at8 zs i n = zs.getD i 0 % n) := Lib.hid (by unfold at8; rw [if_neg (by rw [hr.len]; omega)])
      obtain ⟨b, off, z, rfl, _, hz, hc, hw⟩ := hr.at_ h2
      have hb := bounds_u8 hw
      have H2 : Hid (at8 zs i n = z % n) := Lib.hid (by rw [H.out]; simp [List.getD, hz])
      clear H hz
      go_enter Try.func27, Try.ntmps27
      go_wp2
      go_ret
      exact ⟨ret_int H2.out.symm, rfl⟩
    · have H : Hid (at8 zs i n = 0) := Lib.hid (by unfold at8; rw [if_pos (.inr (by rw [hr.len]; omega))])
      go_enter Try.func27, Try.ntmps27
      go_wp2
      go_ret
      exact ⟨ret_int H.out.symm, rfl⟩
end Go.Proofs.Ytiokcflomchdcaa
