/-
  The program's limits of words and of numbers in a list.
-/
import Derived.Test.YteggllmiapdmcaaRow
import Derived.Test.YteggllmiapdmcaaLim
import Derived.Lib.Hide
namespace Go.Proofs.Yteggllmiapdmcaa
open Go.RowKit

set_option maxHeartbeats 400000 in
theorem vc_isBase (base : Int) (w : World) :
    Calls Try.prog 145 #[.int .i64 base] w fun e w' => e = .returned (.bool (inB base 2 36)) ∧ w = w' := by
  go_enter Try.func145, Try.ntmps145
  go_wp2_with (go_at_call 59; (with_reducible refine (within_any _ _ _ _).mono ?_); rintro e w' ⟨rfl, rfl⟩)
  go_ret
  exact ⟨rfl, rfl⟩

set_option maxHeartbeats 1000000 in
theorem allWithin_any {B : Nat} (A : Option Addr) (n c : Nat) (lo hi : Int) (zs : List Int) (w : World) (h : RowB .i64 B w A n zs) :
    Calls Try.prog 113 #[.slice A n c, .int .i64 lo, .int .i64 hi] w fun e w' => e = .returned (.bool (zs.all fun z => inB z lo hi)) ∧ w = w' := by
  have hle := h.le
  have hl := h.len
  go_enter Try.func113, Try.ntmps113
  go_wp2
  go_loop [8, 11] (fun _ i => ∃ k : Nat, k ≤ n ∧ i = .int .i64 k ∧ Hid ((zs.take k).all (fun z => inB z lo hi) = true)) (fun _ i => n - (intOf i).toNat)
  case atStart => exact ⟨0, by omega, rfl, Lib.hid (by simp)⟩
  case round =>
    obtain ⟨k, hk, rfl, hall⟩ := hrel
    by_cases hlt : k < n
    · obtain ⟨b, o, z, rfl, _, hz, hc, _⟩ := h.at_ hlt
      have HZ := Lib.hid hz
      clear hz
      rcases hin : inB z lo hi with _ | _
      · have CI : Calls Try.prog 59 #[.int .i64 z, .int .i64 lo, .int .i64 hi] w fun e w' => e = .returned (.bool false) ∧ w = w' := by rw [← hin]; exact within_any _ _ _ _
        have HIN := Lib.hid hin
        clear hin
        go_wp2_with (go_at_call 59; (with_reducible refine (CI).mono ?_); rintro e w' ⟨rfl, rfl⟩)
        go_ret
        exact ⟨ret_bool (all_bad (p := fun z => inB z lo hi) HZ.out HIN.out).symm, rfl⟩
      · have CI : Calls Try.prog 59 #[.int .i64 z, .int .i64 lo, .int .i64 hi] w fun e w' => e = .returned (.bool true) ∧ w = w' := by rw [← hin]; exact within_any _ _ _ _
        have HIN := Lib.hid hin
        clear hin
        go_wp2_with (go_at_call 59; (with_reducible refine (CI).mono ?_); rintro e w' ⟨rfl, rfl⟩)
        go_round
        case rel => exact ⟨k + 1, by omega, by go_num, Lib.hid (all_step HZ.out hall.out HIN.out)⟩
        case measure => simp [intOf]; omega
    · obtain rfl : n = k := by omega
      go_wp2
      go_ret
      exact ⟨ret_bool (all_end (by omega) hall.out).symm, rfl⟩

set_option maxHeartbeats 1000000 in
theorem wordLimit_any (base : Int) (n : Nat) (w : World) (hn : n ≤ maxLen) :
    Calls Try.prog 128 #[.int .i64 base, .int .i64 n] w fun e w' => e = .returned (.bool (inB base 2 36 && (inB n 1 20 && limOk base n))) ∧ w = w' := by
  unfold maxLen at hn
  rcases h1 : inB base 2 36 with _ | _
  · have CB : Calls Try.prog 145 #[.int .i64 base] w fun e w' => e = .returned (.bool false) ∧ w = w' := by rw [← h1]; exact vc_isBase _ _
    go_enter Try.func128, Try.ntmps128
    go_wp2_with (go_at_call 145; (with_reducible refine (CB).mono ?_); rintro e w' ⟨rfl, rfl⟩)
    go_ret
    exact ⟨rfl, rfl⟩
  · have CB : Calls Try.prog 145 #[.int .i64 base] w fun e w' => e = .returned (.bool true) ∧ w = w' := by rw [← h1]; exact vc_isBase _ _
    rcases h2 : inB n 1 20 with _ | _
    · have CW : Calls Try.prog 59 #[.int .i64 n, .int .i64 1, .int .i64 20] w fun e w' => e = .returned (.bool false) ∧ w = w' := by rw [← h2]; exact within_any _ _ _ _
      go_enter Try.func128, Try.ntmps128
      go_wp2_with (go_at_call 145; (with_reducible refine (CB).mono ?_); rintro e w' ⟨rfl, rfl⟩)
      (go_at_call 59; (with_reducible refine (CW).mono ?_); rintro e w' ⟨rfl, rfl⟩)
      go_wp2
      go_ret
      exact ⟨rfl, rfl⟩
    · have CW : Calls Try.prog 59 #[.int .i64 n, .int .i64 1, .int .i64 20] w fun e w' => e = .returned (.bool true) ∧ w = w' := by rw [← h2]; exact within_any _ _ _ _
      have hb := inB_true.1 h1
      have hp := inB_true.1 h2
      clear h1 h2
      go_enter Try.func128, Try.ntmps128
      go_wp2_with (go_at_call 145; (with_reducible refine (CB).mono ?_); rintro e w' ⟨rfl, rfl⟩)
      (go_at_call 59; (with_reducible refine (CW).mono ?_); rintro e w' ⟨rfl, rfl⟩)
      clear CB CW
      go_wp2
      go_loop [5, 15] (fun v i => ∃ k : Nat, k ≤ n ∧ i = .int .i64 k ∧ v = .int .i64 (base ^ k) ∧ base ^ k ≤ 1000000000000000) (fun _ i => n - (intOf i).toNat)
      case atStart => exact ⟨0, by omega, rfl, by simp, by simp⟩
      case round =>
        obtain ⟨k, hk, rfl, rfl, hle⟩ := hrel
        have hpos := pow_pos' hb.1 k
        have hsucc : base ^ k * base = base ^ (k + 1) := (Int.pow_succ base k).symm
        have hm1 : 0 ≤ base ^ k * base := Int.mul_nonneg (by omega) (by omega)
        have hm2 : base ^ k * base ≤ 1000000000000000 * 36 := Int.mul_le_mul hle (by omega) (by omega) (by omega)
        have hlimk : limOk base k = true := by unfold limOk; simpa using hle
        obtain ⟨V, hV⟩ : ∃ V, V = base ^ k := ⟨_, rfl⟩
        rw [← hV] at hpos hsucc hm1 hm2 hle ⊢
        obtain ⟨X, hX⟩ : ∃ X, X = V * base := ⟨_, rfl⟩
        have HS := Lib.hid hsucc
        have HX := Lib.hid hX
        have HLK := Lib.hid hlimk
        clear hV hsucc hlimk
        by_cases hlt : k < n
        · by_cases hbig : 1000000000000000 < V * base
          · clear hX
            go_wp2
            go_ret
            refine ⟨ret_bool ?_, rfl⟩
            rw [lim_bad hb.1 (show k + 1 ≤ n by omega) (by rw [← HS.out]; exact hbig)]
          · clear hX
            go_wp2
            go_round
            case rel => exact ⟨k + 1, by omega, by go_num, by rw [HS.out], by rw [← HS.out]; omega⟩
            case measure => simp [intOf]; omega
        · obtain rfl : n = k := by omega
          go_wp2
          go_ret
          exact ⟨ret_bool (by rw [HLK.out]), rfl⟩

end Go.Proofs.Yteggllmiapdmcaa
