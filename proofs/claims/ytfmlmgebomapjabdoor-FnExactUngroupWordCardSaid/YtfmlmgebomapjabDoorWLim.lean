/-
  The program's limits of words and of numbers in a list.
-/
import Derived.Test.YtfmlmgebomapjabDoorRow
import Derived.Test.YtfmlmgebomapjabDoorLim
import Derived.Lib.Hide
namespace Go.Proofs.YtfmlmgebomapjabDoor
open Go.RowKit

set_option maxHeartbeats 1000000 in
theorem allWithin_any {B : Nat} (A : Option Addr) (n c : Nat) (lo hi : Int) (zs : List Int) (w : World) (h : RowB .i64 B w A n zs) :
    Calls Tryd.prog 19 #[.slice A n c, .int .i64 lo, .int .i64 hi] w fun e w' => e = .returned (.bool (zs.all fun z => inB z lo hi)) ∧ w = w' := by
  have hle := h.le
  have hl := h.len
  go_enter Tryd.func19, Tryd.ntmps19
  go_wp2
  go_loop [8, 11] (fun _ i => ∃ k : Nat, k ≤ n ∧ i = .int .i64 k ∧ Hid ((zs.take k).all (fun z => inB z lo hi) = true)) (fun _ i => n - (intOf i).toNat)
  case atStart => exact ⟨0, by omega, rfl, Lib.hid (by simp)⟩
  case round =>
    obtain ⟨k, hk, rfl, hall⟩ := hrel
    by_cases hlt : k < n
    · obtain ⟨b, o, z, rfl, _, hz, hc, _⟩ := h.at_ hlt
      have HZ := Lib.hid hz
      clear hz
      rcases hin : inB z lo hi with _ | _
      · have CI : Calls Tryd.prog 28 #[.int .i64 z, .int .i64 lo, .int .i64 hi] w fun e w' => e = .returned (.bool false) ∧ w = w' := by rw [← hin]; exact within_any _ _ _ _
        have HIN := Lib.hid hin
        clear hin
        go_wp2_with (go_at_call 28; (with_reducible refine (CI).mono ?_); rintro e w' ⟨rfl, rfl⟩)
        go_ret
        exact ⟨ret_bool (all_bad (p := fun z => inB z lo hi) HZ.out HIN.out).symm, rfl⟩
      · have CI : Calls Tryd.prog 28 #[.int .i64 z, .int .i64 lo, .int .i64 hi] w fun e w' => e = .returned (.bool true) ∧ w = w' := by rw [← hin]; exact within_any _ _ _ _
        have HIN := Lib.hid hin
        clear hin
        go_wp2_with (go_at_call 28; (with_reducible refine (CI).mono ?_); rintro e w' ⟨rfl, rfl⟩)
        go_round
        case rel => exact ⟨k + 1, by omega, by go_num, Lib.hid (all_step HZ.out hall.out HIN.out)⟩
        case measure => simp [intOf]; omega
    · obtain rfl : n = k := by omega
      go_wp2
      go_ret
      exact ⟨ret_bool (all_end (by omega) hall.out).symm, rfl⟩

end Go.Proofs.YtfmlmgebomapjabDoor
