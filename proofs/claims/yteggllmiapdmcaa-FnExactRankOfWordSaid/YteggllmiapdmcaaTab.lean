/-
  The program's test of a table of states.
-/
import Derived.Test.YteggllmiapdmcaaTOk
import Derived.Test.YteggllmiapdmcaaOwn2
import Derived.Test.YteggllmiapdmcaaWLim
namespace Go.Proofs.Yteggllmiapdmcaa
open Go.RowKit

set_option maxHeartbeats 1000000 in
theorem tableValid_any {B : Nat} (A : Option Addr) (n c : Nat) (states base : Int) (t : List (List Int)) (w : World) (h : Rows2 B w A n t) :
    Calls Try.prog 108 #[.slice A n c, .int .i64 states, .int .i64 base] w fun e w' => e = .returned (.bool (tabOk base states t)) ∧ w = w' := by
  have hle := h.le
  have hl := h.len
  by_cases hlen : (n : Int) = states
  · have g2 : ((n : Int) != states) = false := by simpa using hlen
    go_enter Try.func108, Try.ntmps108
    go_wp2
    clear g2
    go_loop [8, 15] (fun _ i => ∃ k : Nat, k ≤ n ∧ i = .int .i64 k ∧ Hid ((t.take k).all (lineOk base states) = true)) (fun _ i => n - (intOf i).toNat)
    case atStart => exact ⟨0, by omega, rfl, Lib.hid (by simp)⟩
    case round =>
      obtain ⟨k, hk, rfl, hall⟩ := hrel
      by_cases hlt : k < n
      · obtain ⟨b, o, A1, n1, c1, r, rfl, _, hz, hc, _, hr⟩ := h.2.2 k hlt
        have HZ := Lib.hid hz
        have hl1 := hr.len
        have hn1 := hr.le
        clear hz
        by_cases hlen2 : (n1 : Int) = base
        · have g3 : ((n1 : Int) != base) = false := by simpa using hlen2
          rcases hin : (r.all fun z => inB z 0 (states - 1)) with _ | _
          · have CI : Calls Try.prog 113 #[.slice A1 n1 c1, .int .i64 0, .int .i64 (states - 1)] w fun e w' => e = .returned (.bool false) ∧ w = w' := by rw [← hin]; exact allWithin_any A1 n1 c1 _ _ r w hr
            have HIN := Lib.hid hin
            clear hin hr
            go_wp2_with (go_at_call 113; (with_reducible refine (CI).mono ?_); rintro e w' ⟨rfl, rfl⟩)
            go_ret
            refine ⟨ret_bool ?_, rfl⟩
            have e2 : lineOk base states r = false := by unfold lineOk rowOk; rw [HIN.out]; simp
            unfold tabOk; rw [all_bad HZ.out e2]; simp
          · have CI : Calls Try.prog 113 #[.slice A1 n1 c1, .int .i64 0, .int .i64 (states - 1)] w fun e w' => e = .returned (.bool true) ∧ w = w' := by rw [← hin]; exact allWithin_any A1 n1 c1 _ _ r w hr
            have HIN := Lib.hid hin
            clear hin hr
            go_wp2_with (go_at_call 113; (with_reducible refine (CI).mono ?_); rintro e w' ⟨rfl, rfl⟩)
            go_round
            case rel =>
              refine ⟨k + 1, by omega, by go_num, Lib.hid (all_step HZ.out hall.out ?_)⟩
              unfold lineOk rowOk; rw [HIN.out, hl1]; simpa using hlen2
            case measure => simp [intOf]; omega
        · have g3 : ((n1 : Int) != base) = true := by simpa using hlen2
          clear hr
          go_wp2
          go_ret
          refine ⟨ret_bool ?_, rfl⟩
          have e2 : lineOk base states r = false := by unfold lineOk; rw [hl1]; simp [hlen2]
          unfold tabOk; rw [all_bad HZ.out e2]; simp
      · obtain rfl : n = k := by omega
        go_wp2
        go_ret
        refine ⟨ret_bool ?_, rfl⟩
        unfold tabOk
        rw [all_end (by omega) hall.out, hl]
        simpa using hlen
  · have g2 : ((n : Int) != states) = true := by simpa using hlen
    go_enter Try.func108, Try.ntmps108
    go_wp2
    go_ret
    refine ⟨ret_bool ?_, rfl⟩
    unfold tabOk; rw [hl]; simp [hlen]

end Go.Proofs.Yteggllmiapdmcaa
