/-
  Contracts of b10Long and b10At: a number that is chosen by a byte.
-/
import Derived.Test.YtlgoopjbjamlmaaRow
namespace Go.Proofs.Ytlgoopjbjamlmaa
open Go.RowKit

def atV (zs : List Int) (i n : Int) : Int := if n ≤ 1 then 0 else if i < (zs.length : Int) then zs.getD i.toNat 0 % n else (i * 37 + 11) % n
theorem atV_bd (zs : List Int) (i n : Int) (hn : 1 ≤ n) : 0 ≤ atV zs i n ∧ atV zs i n < n := by
  unfold atV
  split
  · omega
  · split
    · exact ⟨Int.emod_nonneg _ (by omega), Int.emod_lt_of_pos _ (by omega)⟩
    · exact ⟨Int.emod_nonneg _ (by omega), Int.emod_lt_of_pos _ (by omega)⟩

set_option maxHeartbeats 400000 in
theorem b10Long_any (a0 a1 : Option Addr) (l0 c0 l1 c1 : Nat) (w : World) (h0 : l0 ≤ maxLen) (h1 : l1 ≤ maxLen) :
    Calls Try.prog 11 #[.slice a0 l0 c0, .slice a1 l1 c1] w fun e w' => e = .returned (.bool (decide (1048576 < l0 ∨ 1048576 < l1))) ∧ w = w' := by
  unfold maxLen at h0 h1
  by_cases g0 : (1048576 : Int) < l0
  · go_enter Try.func11, Try.ntmps11
    go_wp2
    go_ret
    exact ⟨ret_bool (by simp; omega), rfl⟩
  · by_cases g1 : (1048576 : Int) < l1
    · go_enter Try.func11, Try.ntmps11
      go_wp2
      go_ret
      exact ⟨ret_bool (by simp; omega), rfl⟩
    · go_enter Try.func11, Try.ntmps11
      go_wp2
      go_ret
      exact ⟨ret_bool (by simp; omega), rfl⟩

set_option maxHeartbeats 400000 in
theorem b10At_any (A : Option Addr) (l c i : Nat) (n : Int) (zs : List Int) (w : World) (hr : Row .u8 w A l zs) (hi : i ≤ 1000) (hn : n ≤ 1000000) :
    Calls Try.prog 12 #[.slice A l c, .int .i64 i, .int .i64 n] w fun e w' => e = .returned (.int .i64 (atV zs i n)) ∧ w = w' := by
  have hle := hr.le
  by_cases h1 : n ≤ 1
  · have H : Hid (atV zs i n = 0) := Lib.hid (by unfold atV; rw [if_pos h1])
    go_enter Try.func12, Try.ntmps12
    go_wp2
    go_ret
    exact ⟨ret_int H.out.symm, rfl⟩
  · by_cases h2 : i < l
    · have H : Hid (atV zs i n = zs.getD i 0 % n) := Lib.hid (by unfold atV; rw [if_neg h1, if_pos (by rw [hr.len]; omega)]; simp)
      obtain ⟨b, off, z, rfl, _, hz, hc, hw⟩ := hr.at_ h2
      have hb := bounds_u8 hw
      have H2 : Hid (atV zs i n = z % n) := Lib.hid (by rw [H.out]; simp [List.getD, hz])
      clear H hz
      go_enter Try.func12, Try.ntmps12
      go_wp2
      go_ret
      exact ⟨ret_int H2.out.symm, rfl⟩
    · have H : Hid (atV zs i n = ((i : Int) * 37 + 11) % n) := Lib.hid (by unfold atV; rw [if_neg h1, if_neg (by rw [hr.len]; omega)])
      go_enter Try.func12, Try.ntmps12
      go_wp2
      go_ret
      exact ⟨ret_int H.out.symm, rfl⟩
end Go.Proofs.Ytlgoopjbjamlmaa
