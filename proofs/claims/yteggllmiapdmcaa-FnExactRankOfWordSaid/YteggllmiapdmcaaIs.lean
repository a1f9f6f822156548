/-
  The model's test of a chain.
-/
import Derived.Test.YteggllmiapdmcaaOk
import Derived.Test.YteggllmiapdmcaaChEq
namespace Go.Proofs.Yteggllmiapdmcaa
open Go.RowKit

set_option maxHeartbeats 400000 in
theorem l00Min_any (a b : Int) (w : World) :
    Calls Try.prog 127 #[.int .i64 a, .int .i64 b] w fun e w' => e = .returned (.int .i64 (min a b)) ∧ w = w' := by
  by_cases h : a < b
  · go_enter Try.func127, Try.ntmps127
    go_wp2
    go_ret
    exact ⟨ret_int (by omega), rfl⟩
  · go_enter Try.func127, Try.ntmps127
    go_wp2
    go_ret
    exact ⟨ret_int (by omega), rfl⟩

theorem drew3 (w : World) (a b : Nat) : ∃ m, (w.drewN a).drewN b = w.drewN m := ⟨_, World.drewN_drewN _ _ _⟩

set_option maxRecDepth 100000 in
set_option maxHeartbeats 4000000 in
theorem l02Is_head {B b : Nat} (c : Ch) (AT AP : Option Addr) (nT cT nP cP : Nat) (w : World) (hb : Blk w b (chCells c AT nT cT AP nP cP) 48) (hr : ChRows B w c AT nT AP nP) (hok : headOk c = false) :
    Calls Try.prog 75 #[.pointer (some ⟨b, 0, none⟩)] w fun e w' => e = .returned (.bool false) ∧ ∃ m, w' = w.drewN m := by
  have hlT := hr.1.len
  have hlP := hr.2.len
  have hnT := hr.1.le
  have hnP := hr.2.le
  obtain ⟨base, states, start, stop, T, P⟩ := c
  unfold headOk at hok
  dsimp only at hok hlT hlP
  rw [hlT, hlP] at hok
  have c0 := hb.cell 0
  have c1 := hb.cell 1
  have c2 := hb.cell 2
  have c3 := hb.cell 3
  have c4 := hb.cell 4
  have c5 := hb.cell 5
  have C1 : ∀ W, Calls Try.prog 95 #[.int .i64 base, .int .i64 2, .int .i64 36] W fun e w' => e = .returned (.bool (inB base 2 36)) ∧ W = w' := fun W => l00In_any _ _ _ W
  have C2 : ∀ W, Calls Try.prog 95 #[.int .i64 states, .int .i64 1, .int .i64 36] W fun e w' => e = .returned (.bool (inB states 1 36)) ∧ W = w' := fun W => l00In_any _ _ _ W
  have C3 : ∀ W, Calls Try.prog 95 #[.int .i64 start, .int .i64 0, .int .i64 (states - 1)] W fun e w' => e = .returned (.bool (inB start 0 (states - 1))) ∧ W = w' := fun W => l00In_any _ _ _ W
  have C4 : ∀ W, Calls Try.prog 95 #[.int .i64 stop, .int .i64 0, .int .i64 (states - 1)] W fun e w' => e = .returned (.bool (inB stop 0 (states - 1))) ∧ W = w' := fun W => l00In_any _ _ _ W
  have C5 : ∀ W, Calls Try.prog 95 #[.int .i64 nT, .int .i64 1, .int .i64 20] W fun e w' => e = .returned (.bool (inB nT 1 20)) ∧ W = w' := fun W => l00In_any _ _ _ W
  have C6 : ∀ W, Calls Try.prog 95 #[.int .i64 nP, .int .i64 1, .int .i64 20] W fun e w' => e = .returned (.bool (inB nP 1 20)) ∧ W = w' := fun W => l00In_any _ _ _ W
  clear hr hb
  rcases h1 : inB base 2 36 with _ | _
  · rw [h1] at C1
    clear h1 hok C2 C3 C4 C5 C6
    go_enter Try.func75, Try.ntmps75
    go_wp2
    go_quiet ((go_at_call 95; first | ((with_reducible refine (C1 _).mono ?_); exact fun _ _ ⟨he, hm⟩ => ⟨he, _, hm.symm⟩)))
    go_wp2
    go_ret
    exact ⟨rfl, _, rfl⟩
  · rw [h1] at C1 hok
    clear h1
    rcases h2 : inB states 1 36 with _ | _
    · rw [h2] at C2
      clear h2 hok C3 C4 C5 C6
      go_enter Try.func75, Try.ntmps75
      go_wp2
      go_quiet ((go_at_call 95; first | ((with_reducible refine (C1 _).mono ?_); exact fun _ _ ⟨he, hm⟩ => ⟨he, _, hm.symm⟩) | ((with_reducible refine (C2 _).mono ?_); exact fun _ _ ⟨he, hm⟩ => ⟨he, _, hm.symm⟩)))
      go_wp2
      go_ret
      exact ⟨rfl, _, rfl⟩
    · rw [h2] at C2 hok
      have hst := inB_true.1 h2
      clear h2
      have hs1 : -9223372036854775808 ≤ states - 1 := by omega
      rcases h3 : inB start 0 (states - 1) with _ | _
      · rw [h3] at C3
        clear h3 hok C4 C5 C6
        go_enter Try.func75, Try.ntmps75
        go_wp2
        go_quiet ((go_at_call 95; first | ((with_reducible refine (C1 _).mono ?_); exact fun _ _ ⟨he, hm⟩ => ⟨he, _, hm.symm⟩) | ((with_reducible refine (C2 _).mono ?_); exact fun _ _ ⟨he, hm⟩ => ⟨he, _, hm.symm⟩) | ((with_reducible refine (C3 _).mono ?_); exact fun _ _ ⟨he, hm⟩ => ⟨he, _, hm.symm⟩)))
        go_wp2
        go_ret
        exact ⟨rfl, _, rfl⟩
      · rw [h3] at C3 hok
        clear h3
        rcases h4 : inB stop 0 (states - 1) with _ | _
        · rw [h4] at C4
          clear h4 hok C5 C6
          go_enter Try.func75, Try.ntmps75
          go_wp2
          go_quiet ((go_at_call 95; first | ((with_reducible refine (C1 _).mono ?_); exact fun _ _ ⟨he, hm⟩ => ⟨he, _, hm.symm⟩) | ((with_reducible refine (C2 _).mono ?_); exact fun _ _ ⟨he, hm⟩ => ⟨he, _, hm.symm⟩) | ((with_reducible refine (C3 _).mono ?_); exact fun _ _ ⟨he, hm⟩ => ⟨he, _, hm.symm⟩) | ((with_reducible refine (C4 _).mono ?_); exact fun _ _ ⟨he, hm⟩ => ⟨he, _, hm.symm⟩)))
          go_wp2
          go_ret
          exact ⟨rfl, _, rfl⟩
        · rw [h4] at C4 hok
          clear h4
          rcases h5 : inB nT 1 20 with _ | _
          · rw [h5] at C5
            clear h5 hok C6
            go_enter Try.func75, Try.ntmps75
            go_wp2
            go_quiet ((go_at_call 95; first | ((with_reducible refine (C1 _).mono ?_); exact fun _ _ ⟨he, hm⟩ => ⟨he, _, hm.symm⟩) | ((with_reducible refine (C2 _).mono ?_); exact fun _ _ ⟨he, hm⟩ => ⟨he, _, hm.symm⟩) | ((with_reducible refine (C3 _).mono ?_); exact fun _ _ ⟨he, hm⟩ => ⟨he, _, hm.symm⟩) | ((with_reducible refine (C4 _).mono ?_); exact fun _ _ ⟨he, hm⟩ => ⟨he, _, hm.symm⟩) | ((with_reducible refine (C5 _).mono ?_); exact fun _ _ ⟨he, hm⟩ => ⟨he, _, hm.symm⟩)))
            go_wp2
            go_ret
            exact ⟨rfl, _, rfl⟩
          · rw [h5] at C5 hok
            clear h5
            have h6 : inB nP 1 20 = false := by simpa using hok
            rw [h6] at C6
            clear h6 hok
            go_enter Try.func75, Try.ntmps75
            go_wp2
            go_quiet ((go_at_call 95; first | ((with_reducible refine (C1 _).mono ?_); exact fun _ _ ⟨he, hm⟩ => ⟨he, _, hm.symm⟩) | ((with_reducible refine (C2 _).mono ?_); exact fun _ _ ⟨he, hm⟩ => ⟨he, _, hm.symm⟩) | ((with_reducible refine (C3 _).mono ?_); exact fun _ _ ⟨he, hm⟩ => ⟨he, _, hm.symm⟩) | ((with_reducible refine (C4 _).mono ?_); exact fun _ _ ⟨he, hm⟩ => ⟨he, _, hm.symm⟩) | ((with_reducible refine (C5 _).mono ?_); exact fun _ _ ⟨he, hm⟩ => ⟨he, _, hm.symm⟩) | ((with_reducible refine (C6 _).mono ?_); exact fun _ _ ⟨he, hm⟩ => ⟨he, _, hm.symm⟩)))
            go_wp2
            go_ret
            exact ⟨rfl, _, rfl⟩
end Go.Proofs.Yteggllmiapdmcaa
