/-
  The model's test of numbers below a bound.
-/
import Derived.Test.YteggllmiapdmcaaRow
import Derived.Test.YteggllmiapdmcaaLim
import Derived.Lib.Hide
namespace Go.Proofs.Yteggllmiapdmcaa
open Go.RowKit

set_option maxHeartbeats 400000 in
theorem l01BelowG_any {B : Nat} (A : Option Addr) (n c : Nat) (m : Int) (zs : List Int) (w : World) (h : RowB .i64 B w A n zs) (h1 : -1000000 ≤ m) (h2 : m ≤ 1000000) :
    Calls Try.prog 122 #[.slice A n c, .int .i64 m] w fun e w' => e = .returned (.bool (zs.all fun z => inB z 0 (m - 1))) ∧ w = w' := by
  have hle := h.le
  have hl := h.len
  go_enter Try.func122, Try.ntmps122
  go_wp2
  go_loop [5] (fun i => ∃ k : Nat, k ≤ n ∧ i = .int .i64 k ∧ Hid ((zs.take k).all (fun z => inB z 0 (m - 1)) = true)) (fun i => n - (intOf i).toNat)
  case atStart => exact ⟨0, by omega, rfl, Lib.hid (by simp)⟩
  case round =>
    obtain ⟨k, hk, rfl, hall⟩ := hrel
    by_cases hlt : k < n
    · obtain ⟨b, o, z, rfl, _, hz, hc, _⟩ := h.at_ hlt
      have HZ := Lib.hid hz
      clear hz
      rcases hin : inB z 0 (m - 1) with _ | _
      · have CI : Calls Try.prog 95 #[.int .i64 z, .int .i64 0, .int .i64 (m - 1)] w fun e w' => e = .returned (.bool false) ∧ w = w' := by rw [← hin]; exact l00In_any _ _ _ _
        have HIN := Lib.hid hin
        clear hin
        go_wp2_with (go_at_call 95; (with_reducible refine (CI).mono ?_); rintro e w' ⟨rfl, rfl⟩)
        go_ret
        exact ⟨ret_bool (all_bad (p := fun z => inB z 0 (m - 1)) HZ.out HIN.out).symm, rfl⟩
      · have CI : Calls Try.prog 95 #[.int .i64 z, .int .i64 0, .int .i64 (m - 1)] w fun e w' => e = .returned (.bool true) ∧ w = w' := by rw [← hin]; exact l00In_any _ _ _ _
        have HIN := Lib.hid hin
        clear hin
        go_wp2_with (go_at_call 95; (with_reducible refine (CI).mono ?_); rintro e w' ⟨rfl, rfl⟩)
        go_round
        case rel => exact ⟨k + 1, by omega, by go_num, Lib.hid (all_step HZ.out hall.out HIN.out)⟩
        case measure => simp [intOf]; omega
    · obtain rfl : n = k := by omega
      go_wp2
      go_ret
      exact ⟨ret_bool (all_end (by omega) hall.out).symm, rfl⟩
end Go.Proofs.Yteggllmiapdmcaa
