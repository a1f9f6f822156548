/-
  The program's test of a chain.
-/
import Derived.Test.YteggllmiapdmcaaTab
import Derived.Test.YteggllmiapdmcaaOk
import Derived.Test.YteggllmiapdmcaaCh2
import Derived.Test.YteggllmiapdmcaaWLim
namespace Go.Proofs.Yteggllmiapdmcaa
open Go.RowKit

set_option maxHeartbeats 2000000 in
theorem implValid_any {B : Nat} (c : Ch) (AT AP : Option Addr) (nT cT nP cP : Nat) (w : World) (hr : ChRows B w c AT nT AP nP) (hB : B ≤ w.heap.size) :
    Calls Try.prog 79 #[chV c AT nT cT AP nP cP] w fun e w' => e = .returned (.bool c.ok) ∧ Below w.heap.size w w' := by
  have hlT := hr.1.len
  have hlP := hr.2.len
  have hnT := hr.1.le
  have hnP := hr.2.le
  obtain ⟨base, states, start, stop, T, P⟩ := c
  dsimp only at hlT hlP
  have hOK : Hid (Ch.ok ⟨base, states, start, stop, T, P⟩ = ((inB base 2 36 && (inB nP 1 20 && limOk base nP)) && (inB states 1 36 && (inB nT 1 20 && (T.all (tabOk base states) && (inB start 0 (states - 1) && (inB stop 0 (states - 1) && P.all (fun p => inB p 0 ((nT : Int) - 1))))))))) := Lib.hid (by
    unfold Ch.ok headOk
    dsimp only
    rw [hlT, hlP]
    cases inB base 2 36 <;> cases inB nP 1 20 <;> cases limOk base nP <;> cases inB states 1 36 <;> cases inB nT 1 20 <;> cases T.all (tabOk base states) <;> cases inB start 0 (states - 1) <;> cases inB stop 0 (states - 1) <;> simp)
  obtain ⟨w1, hw1⟩ : ∃ w1, w1 = w.alloc (.cells #[.int .i64 base, .int .i64 states, .int .i64 start, .int .i64 stop, .slice AT nT cT, .slice AP nP cP] 48) := ⟨_, rfl⟩
  have bel : Below w.heap.size w w1 := by rw [hw1]; exact (Below.refl _ w).alloc (Nat.le_refl _) _
  have b1 : Blk w1 w.heap.size #[.int .i64 base, .int .i64 states, .int .i64 start, .int .i64 stop, .slice AT nT cT, .slice AP nP cP] 48 := by rw [hw1]; exact Blk.new _ _ _
  obtain ⟨hT3, hPR⟩ := hr.below (bel.mono hB)
  have c0 := b1.cell 0
  have c1 := b1.cell 1
  have c2 := b1.cell 2
  have c3 := b1.cell 3
  have c4 := b1.cell 4
  have c5 := b1.cell 5
  have CL := wordLimit_any base nP w1 (by unfold maxLen; omega)
  have BEL := Lib.hid bel
  clear bel b1 hr
  generalize hL : (inB base 2 36 && (inB nP 1 20 && limOk base nP)) = L at CL hOK
  rcases L with _ | _
  · go_enter Try.func79, Try.ntmps79
    go_wp2_with fail
    rw [← hw1]
    have HW1 := Lib.hid hw1
    clear hw1
    (go_at_call 128; (with_reducible refine (CL).mono ?_); rintro e w2 ⟨rfl, rfl⟩)
    go_wp2_with fail
    go_ret
    exact ⟨ret_bool (by rw [hOK.out]; rfl), BEL.out⟩
  · have HL := Lib.hid hL
    clear hL
    rcases h2 : inB states 1 36 with _ | _
    · have C2 : Calls Try.prog 59 #[.int .i64 states, .int .i64 1, .int .i64 36] w1 fun e w' => e = .returned (.bool false) ∧ w1 = w' := by rw [← h2]; exact within_any _ _ _ _
      rw [h2] at hOK
      clear h2
      go_enter Try.func79, Try.ntmps79
      go_wp2_with fail
      rw [← hw1]
      have HW1 := Lib.hid hw1
      clear hw1
      (go_at_call 128; (with_reducible refine (CL).mono ?_); rintro e w2 ⟨rfl, rfl⟩)
      go_wp2_with fail
      (go_at_call 59; (with_reducible refine (C2).mono ?_); rintro e w2 ⟨rfl, rfl⟩)
      go_wp2_with fail
      go_ret
      exact ⟨ret_bool (by rw [hOK.out]; rfl), BEL.out⟩
    · have C2 : Calls Try.prog 59 #[.int .i64 states, .int .i64 1, .int .i64 36] w1 fun e w' => e = .returned (.bool true) ∧ w1 = w' := by rw [← h2]; exact within_any _ _ _ _
      have hst := inB_true.1 h2
      rw [h2] at hOK
      clear h2
      have hs1 : -9223372036854775808 ≤ states - 1 := by omega
      rcases h3 : inB nT 1 20 with _ | _
      · have C3 : Calls Try.prog 129 #[.int .i64 nT, .int .i64 1, .int .i64 20] w1 fun e w' => e = .returned (.bool false) ∧ w1 = w' := by rw [← h3]; exact withinInt_any _ _ _ _
        rw [h3] at hOK
        clear h3
        go_enter Try.func79, Try.ntmps79
        go_wp2_with fail
        rw [← hw1]
        have HW1 := Lib.hid hw1
        clear hw1
        (go_at_call 128; (with_reducible refine (CL).mono ?_); rintro e w2 ⟨rfl, rfl⟩)
        go_wp2_with fail
        (go_at_call 59; (with_reducible refine (C2).mono ?_); rintro e w2 ⟨rfl, rfl⟩)
        go_wp2_with fail
        (go_at_call 129; (with_reducible refine (C3).mono ?_); rintro e w2 ⟨rfl, rfl⟩)
        go_wp2_with fail
        go_ret
        exact ⟨ret_bool (by rw [hOK.out]; rfl), BEL.out⟩
      · have C3 : Calls Try.prog 129 #[.int .i64 nT, .int .i64 1, .int .i64 20] w1 fun e w' => e = .returned (.bool true) ∧ w1 = w' := by rw [← h3]; exact withinInt_any _ _ _ _
        have hnT20 := inB_true.1 h3
        rw [h3] at hOK
        clear h3
        go_enter Try.func79, Try.ntmps79
        go_wp2_with fail
        rw [← hw1]
        have HW1 := Lib.hid hw1
        clear hw1
        (go_at_call 128; (with_reducible refine (CL).mono ?_); rintro e w2 ⟨rfl, rfl⟩)
        go_wp2_with fail
        (go_at_call 59; (with_reducible refine (C2).mono ?_); rintro e w2 ⟨rfl, rfl⟩)
        go_wp2_with fail
        (go_at_call 129; (with_reducible refine (C3).mono ?_); rintro e w2 ⟨rfl, rfl⟩)
        clear CL C2 C3
        go_wp2_with fail
        go_loop [4, 28] (fun _ i => ∃ k : Nat, k ≤ nT ∧ i = .int .i64 k ∧ Hid ((T.take k).all (tabOk base states) = true)) (fun _ i => nT - (intOf i).toNat)
        case atStart => exact ⟨0, by omega, rfl, Lib.hid (by simp)⟩
        case round =>
          obtain ⟨k, hk, rfl, hall⟩ := hrel
          by_cases hlt : k < nT
          · obtain ⟨b, o, A1, n1, cc1, t, rfl, _, hz, hc, _, hr2⟩ := hT3.2.2 k hlt
            have CV := tableValid_any A1 n1 cc1 states base t w1 hr2
            have HZ := Lib.hid hz
            clear hz hr2
            rcases hin : tabOk base states t with _ | _
            · rw [hin] at CV
              have HIN := Lib.hid hin
              clear hin
              go_wp2_with (go_at_call 108; (with_reducible refine (CV).mono ?_); rintro e w' ⟨rfl, rfl⟩)
              go_ret
              exact ⟨ret_bool (by rw [hOK.out, all_bad HZ.out HIN.out]; simp), BEL.out⟩
            · rw [hin] at CV
              have HIN := Lib.hid hin
              clear hin
              go_wp2_with (go_at_call 108; (with_reducible refine (CV).mono ?_); rintro e w' ⟨rfl, rfl⟩)
              go_round
              case rel => exact ⟨k + 1, by omega, by go_num, Lib.hid (all_step HZ.out hall.out HIN.out)⟩
              case measure => simp [intOf]; omega
          · obtain rfl : nT = k := by omega
            have HT := Lib.hid (all_end (by omega) hall.out)
            have CA := allWithin_any AP nP cP 0 ((nT : Int) - 1) P w1 hPR
            clear hT3 hPR
            rcases h5 : inB start 0 (states - 1) with _ | _
            · have C5 : Calls Try.prog 59 #[.int .i64 start, .int .i64 0, .int .i64 (states - 1)] w1 fun e w' => e = .returned (.bool false) ∧ w1 = w' := by rw [← h5]; exact within_any _ _ _ _
              rw [h5] at hOK
              clear h5
              go_wp2_with fail
              (go_at_call 59; (with_reducible refine (C5).mono ?_); rintro e w2 ⟨rfl, rfl⟩)
              go_wp2_with fail
              go_ret
              exact ⟨ret_bool (by rw [hOK.out]; simp), BEL.out⟩
            · have C5 : Calls Try.prog 59 #[.int .i64 start, .int .i64 0, .int .i64 (states - 1)] w1 fun e w' => e = .returned (.bool true) ∧ w1 = w' := by rw [← h5]; exact within_any _ _ _ _
              rw [h5] at hOK
              clear h5
              rcases h6 : inB stop 0 (states - 1) with _ | _
              · have C6 : Calls Try.prog 59 #[.int .i64 stop, .int .i64 0, .int .i64 (states - 1)] w1 fun e w' => e = .returned (.bool false) ∧ w1 = w' := by rw [← h6]; exact within_any _ _ _ _
                rw [h6] at hOK
                clear h6
                go_wp2_with fail
                (go_at_call 59; (with_reducible refine (C5).mono ?_); rintro e w2 ⟨rfl, rfl⟩)
                go_wp2_with fail
                (go_at_call 59; (with_reducible refine (C6).mono ?_); rintro e w2 ⟨rfl, rfl⟩)
                go_wp2_with fail
                go_ret
                exact ⟨ret_bool (by rw [hOK.out]; simp), BEL.out⟩
              · have C6 : Calls Try.prog 59 #[.int .i64 stop, .int .i64 0, .int .i64 (states - 1)] w1 fun e w' => e = .returned (.bool true) ∧ w1 = w' := by rw [← h6]; exact within_any _ _ _ _
                rw [h6] at hOK
                clear h6
                go_wp2_with fail
                (go_at_call 59; (with_reducible refine (C5).mono ?_); rintro e w2 ⟨rfl, rfl⟩)
                go_wp2_with fail
                (go_at_call 59; (with_reducible refine (C6).mono ?_); rintro e w2 ⟨rfl, rfl⟩)
                go_wp2_with fail
                (go_at_call 113; (with_reducible refine (CA).mono ?_); rintro e w2 ⟨rfl, rfl⟩)
                go_wp2_with fail
                go_ret
                exact ⟨ret_bool (by rw [hOK.out, HT.out]; simp), BEL.out⟩
end Go.Proofs.Yteggllmiapdmcaa
