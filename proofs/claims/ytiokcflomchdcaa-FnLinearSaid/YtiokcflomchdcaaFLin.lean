/-
  The walk of the law FnLinear.
-/
import Derived.Test.YtiokcflomchdcaaLinM
import Derived.Test.YtiokcflomchdcaaAt8
namespace Go.Proofs.Ytiokcflomchdcaa
open Go.RowKit

theorem linO_nat {n a b c : Nat} (hn : 1 ≤ n ∧ n ≤ 36) (ha : a < n) (hb : b < n) (hc : c < n) : linO n a b c = if isQ (gridOf n n (linF n a b c)) then some (gridOf n n (linF n a b c)) else none := by
  unfold linO
  rw [inB_true.2 (by omega), inB_true.2 (by omega), inB_true.2 (by omega), inB_true.2 (by omega)]
  simp

set_option maxRecDepth 100000 in
set_option maxHeartbeats 4000000 in
theorem linear_walk (a0 a1 : Option Addr) (l0 c0 l1 c1 : Nat) (z0 z1 : List Int) (w : World) (r0 : Row .u8 w a0 l0 z0) (r1 : Row .u8 w a1 l1 z1) :
    Calls Try.prog 5 #[.slice a0 l0 c0, .slice a1 l1 c1] w fun e w' => e = .returned (.bool true) ∧ Below w.heap.size w w' := by
  have L : ∀ W, Calls Try.prog 21 #[.slice a0 l0 c0, .slice a1 l1 c1] W fun e w' => e = .returned (.bool (decide (48 < l0 ∨ 48 < l1))) ∧ W = w' := fun W => r8Long_any a0 a1 l0 c0 l1 c1 W r0.2.1 r1.2.1
  rcases hl : decide (48 < l0 ∨ 48 < l1) with _ | _
  · rw [hl] at L
    clear hl
    obtain ⟨N, hN, hN1, hN12⟩ : ∃ N : Nat, at8 z0 0 12 = (N : Int) - 1 ∧ 1 ≤ N ∧ N ≤ 12 := by
      have b := at8_bd z0 0 12 (by omega)
      exact ⟨(at8 z0 0 12 + 1).toNat, by omega, by omega, by omega⟩
    obtain ⟨a, ha, haN⟩ : ∃ a : Nat, at8 z1 0 N = (a : Int) ∧ a < N := by
      have b := at8_bd z1 0 N (by omega)
      exact ⟨(at8 z1 0 N).toNat, by omega, by omega⟩
    obtain ⟨b, hb, hbN⟩ : ∃ b : Nat, at8 z1 1 N = (b : Int) ∧ b < N := by
      have b := at8_bd z1 1 N (by omega)
      exact ⟨(at8 z1 1 N).toNat, by omega, by omega⟩
    obtain ⟨c, hc, hcN⟩ : ∃ c : Nat, at8 z1 2 N = (c : Int) ∧ c < N := by
      have b := at8_bd z1 2 N (by omega)
      exact ⟨(at8 z1 2 N).toNat, by omega, by omega⟩
    have A0 : ∀ W, Row .u8 W a0 l0 z0 → Calls Try.prog 27 #[.slice a0 l0 c0, .int .i64 0, .int .i64 12] W fun e w' => e = .returned (.int .i64 ((N : Int) - 1)) ∧ W = w' := fun W r => hN ▸ r8At_any a0 l0 c0 0 12 z0 W r (by omega)
    have A1 : ∀ W, Row .u8 W a1 l1 z1 → Calls Try.prog 27 #[.slice a1 l1 c1, .int .i64 0, .int .i64 N] W fun e w' => e = .returned (.int .i64 a) ∧ W = w' := fun W r => ha ▸ r8At_any a1 l1 c1 0 N z1 W r (by omega)
    have A2 : ∀ W, Row .u8 W a1 l1 z1 → Calls Try.prog 27 #[.slice a1 l1 c1, .int .i64 1, .int .i64 N] W fun e w' => e = .returned (.int .i64 b) ∧ W = w' := fun W r => hb ▸ r8At_any a1 l1 c1 1 N z1 W r (by omega)
    have A3 : ∀ W, Row .u8 W a1 l1 z1 → Calls Try.prog 27 #[.slice a1 l1 c1, .int .i64 2, .int .i64 N] W fun e w' => e = .returned (.int .i64 c) ∧ W = w' := fun W r => hc ▸ r8At_any a1 l1 c1 2 N z1 W r (by omega)
    have eN : 1 + ((N : Int) - 1) = N := by omega
    have hn36 : 1 ≤ N ∧ N ≤ 36 := ⟨hN1, by omega⟩
    have CL := implLin_any N a b c w (WalkArith.wf_i64 (by omega)) (WalkArith.wf_i64 (by omega)) (WalkArith.wf_i64 (by omega))
    rw [linO_nat hn36 haN hbN hcN] at CL
    obtain ⟨ga, hga⟩ : ∃ ga, ga = Nat.gcd a N := ⟨_, rfl⟩
    obtain ⟨gb, hgb⟩ : ∃ gb, gb = Nat.gcd b N := ⟨_, rfl⟩
    have G1 : ∀ W, Calls Try.prog 29 #[.int .i64 a, .int .i64 N] W fun e w' => e = .returned (.int .i64 ga) ∧ W = w' := fun W => by rw [hga]; exact r8Gcd_any a N W (by omega) (by omega)
    have G2 : ∀ W, Calls Try.prog 29 #[.int .i64 b, .int .i64 N] W fun e w' => e = .returned (.int .i64 gb) ∧ W = w' := fun W => by rw [hgb]; exact r8Gcd_any b N W (by omega) (by omega)
    have hQ := lin_isQ2 (n := N) (a := a) (b := b) (c := c) hn36 hga hgb
    clear hga hgb hN ha hb hc
    by_cases h1 : ga = 1
    · subst h1
      by_cases h2 : gb = 1
      · subst h2
        have hQ1 : isQ (gridOf N N (linF N a b c)) = true := by rw [hQ]; rfl
        rw [hQ1, if_pos rfl] at CL
        obtain ⟨g3, hg3⟩ : ∃ g3, g3 = Nat.gcd (a + N - 1) N := ⟨_, rfl⟩
        obtain ⟨g4, hg4⟩ : ∃ g4, g4 = Nat.gcd (a + N - b) N := ⟨_, rfl⟩
        have G3 : ∀ W, Calls Try.prog 29 #[.int .i64 ((a : Int) + N - 1), .int .i64 N] W fun e w' => e = .returned (.int .i64 g3) ∧ W = w' := fun W => by
          have e : (a : Int) + N - 1 = ((a + N - 1 : Nat) : Int) := by omega
          rw [hg3, e]; exact r8Gcd_any (a + N - 1) N W (by omega) (by omega)
        have G4 : ∀ W, Calls Try.prog 29 #[.int .i64 ((a : Int) + N - b), .int .i64 N] W fun e w' => e = .returned (.int .i64 g4) ∧ W = w' := fun W => by
          have e : (a : Int) + N - b = ((a + N - b : Nat) : Int) := by omega
          rw [hg4, e]; exact r8Gcd_any (a + N - b) N W (by omega) (by omega)
        have hT := lin_tot2 (n := N) (a := a) (b := b) (c := c) hn36 hbN hQ1 hg3 hg4
        clear hg3 hg4 hQ
        have CT : ∀ (A : Option Addr) (cc : Nat) (W : World), Rows2 W.heap.size W A N (gridOf N N (linF N a b c)) → Calls Try.prog 25 #[.slice A N cc] W fun e w' => e = .returned (.bool (decide (g3 = 1) && decide (g4 = 1))) ∧ Below W.heap.size W w' := fun A cc W h => by rw [← hT]; exact implTot_any A N cc _ W h (Nat.le_refl _)
        clear hT hQ1
        rcases hT3 : (decide (g3 = 1) && decide (g4 = 1)) with _ | _
        · rw [hT3] at CT
          by_cases h3 : g3 = 1
          · subst h3
            have h4 : ¬ g4 = 1 := by simpa using hT3
            have q4 : ((g4 : Int) == 1) = false := by simp; omega
            clear hT3
            go_enter Try.func5, Try.ntmps5
            go_wp2_with first | (go_at_call 21; (with_reducible refine (L _).mono ?_); rintro e w' ⟨rfl, rfl⟩) | (go_at_call 27; (with_reducible refine (A0 _ r0).mono ?_); rintro e w' ⟨rfl, rfl⟩) | (go_at_call 27; (with_reducible refine (A1 _ r1).mono ?_); rintro e w' ⟨rfl, rfl⟩) | (go_at_call 27; (with_reducible refine (A2 _ r1).mono ?_); rintro e w' ⟨rfl, rfl⟩) | (go_at_call 27; (with_reducible refine (A3 _ r1).mono ?_); rintro e w' ⟨rfl, rfl⟩)
            (go_at_call 28; (with_reducible refine (CL).mono ?_); rintro e w1 ⟨A, cc, Ls, rfl, hown, hb1⟩)
            have HOW : Hid (Rows2 w1.heap.size w1 A N (gridOf N N (linF N a b c))) := Lib.hid (by simpa [grid_len] using hown.row)
            have hlen : ((some (gridOf N N (linF N a b c))).getD []).length = N := by simp [grid_len]
            rw [hlen]
            clear hown hlen
            go_wp2_with first | (go_at_call 29; (with_reducible refine (G1 _).mono ?_); rintro e w' ⟨rfl, rfl⟩) | (go_at_call 29; (with_reducible refine (G2 _).mono ?_); rintro e w' ⟨rfl, rfl⟩)
            (go_at_call 25; (with_reducible refine (CT _ _ _ HOW.out).mono ?_); rintro e w2 ⟨rfl, hb2⟩)
            go_wp2_with first | (go_at_call 29; (with_reducible refine (G3 _).mono ?_); rintro e w' ⟨rfl, rfl⟩) | (go_at_call 29; (with_reducible refine (G4 _).mono ?_); rintro e w' ⟨rfl, rfl⟩)
            go_ret
            exact ⟨rfl, hb1.trans (hb2.mono hb1.size)⟩
          · have q3 : ((g3 : Int) == 1) = false := by simp; omega
            clear hT3
            go_enter Try.func5, Try.ntmps5
            go_wp2_with first | (go_at_call 21; (with_reducible refine (L _).mono ?_); rintro e w' ⟨rfl, rfl⟩) | (go_at_call 27; (with_reducible refine (A0 _ r0).mono ?_); rintro e w' ⟨rfl, rfl⟩) | (go_at_call 27; (with_reducible refine (A1 _ r1).mono ?_); rintro e w' ⟨rfl, rfl⟩) | (go_at_call 27; (with_reducible refine (A2 _ r1).mono ?_); rintro e w' ⟨rfl, rfl⟩) | (go_at_call 27; (with_reducible refine (A3 _ r1).mono ?_); rintro e w' ⟨rfl, rfl⟩)
            (go_at_call 28; (with_reducible refine (CL).mono ?_); rintro e w1 ⟨A, cc, Ls, rfl, hown, hb1⟩)
            have HOW : Hid (Rows2 w1.heap.size w1 A N (gridOf N N (linF N a b c))) := Lib.hid (by simpa [grid_len] using hown.row)
            have hlen : ((some (gridOf N N (linF N a b c))).getD []).length = N := by simp [grid_len]
            rw [hlen]
            clear hown hlen
            go_wp2_with first | (go_at_call 29; (with_reducible refine (G1 _).mono ?_); rintro e w' ⟨rfl, rfl⟩) | (go_at_call 29; (with_reducible refine (G2 _).mono ?_); rintro e w' ⟨rfl, rfl⟩)
            (go_at_call 25; (with_reducible refine (CT _ _ _ HOW.out).mono ?_); rintro e w2 ⟨rfl, hb2⟩)
            go_wp2_with first | (go_at_call 29; (with_reducible refine (G3 _).mono ?_); rintro e w' ⟨rfl, rfl⟩) | (go_at_call 29; (with_reducible refine (G4 _).mono ?_); rintro e w' ⟨rfl, rfl⟩)
            go_ret
            exact ⟨rfl, hb1.trans (hb2.mono hb1.size)⟩
        · rw [hT3] at CT
          have h3 : g3 = 1 ∧ g4 = 1 := by simpa using hT3
          obtain ⟨rfl, rfl⟩ := h3
          clear hT3
          go_enter Try.func5, Try.ntmps5
          go_wp2_with first | (go_at_call 21; (with_reducible refine (L _).mono ?_); rintro e w' ⟨rfl, rfl⟩) | (go_at_call 27; (with_reducible refine (A0 _ r0).mono ?_); rintro e w' ⟨rfl, rfl⟩) | (go_at_call 27; (with_reducible refine (A1 _ r1).mono ?_); rintro e w' ⟨rfl, rfl⟩) | (go_at_call 27; (with_reducible refine (A2 _ r1).mono ?_); rintro e w' ⟨rfl, rfl⟩) | (go_at_call 27; (with_reducible refine (A3 _ r1).mono ?_); rintro e w' ⟨rfl, rfl⟩)
          (go_at_call 28; (with_reducible refine (CL).mono ?_); rintro e w1 ⟨A, cc, Ls, rfl, hown, hb1⟩)
          have HOW : Hid (Rows2 w1.heap.size w1 A N (gridOf N N (linF N a b c))) := Lib.hid (by simpa [grid_len] using hown.row)
          have hlen : ((some (gridOf N N (linF N a b c))).getD []).length = N := by simp [grid_len]
          rw [hlen]
          clear hown hlen
          go_wp2_with first | (go_at_call 29; (with_reducible refine (G1 _).mono ?_); rintro e w' ⟨rfl, rfl⟩) | (go_at_call 29; (with_reducible refine (G2 _).mono ?_); rintro e w' ⟨rfl, rfl⟩)
          (go_at_call 25; (with_reducible refine (CT _ _ _ HOW.out).mono ?_); rintro e w2 ⟨rfl, hb2⟩)
          go_wp2_with first | (go_at_call 29; (with_reducible refine (G3 _).mono ?_); rintro e w' ⟨rfl, rfl⟩) | (go_at_call 29; (with_reducible refine (G4 _).mono ?_); rintro e w' ⟨rfl, rfl⟩)
          go_ret
          exact ⟨rfl, hb1.trans (hb2.mono hb1.size)⟩
      · have q2 : ((gb : Int) == 1) = false := by simp; omega
        have hQ1 : isQ (gridOf N N (linF N a b c)) = false := by rw [hQ]; simp [h2]
        rw [hQ1, if_neg (by simp)] at CL
        go_enter Try.func5, Try.ntmps5
        go_wp2_with first | (go_at_call 21; (with_reducible refine (L _).mono ?_); rintro e w' ⟨rfl, rfl⟩) | (go_at_call 27; (with_reducible refine (A0 _ r0).mono ?_); rintro e w' ⟨rfl, rfl⟩) | (go_at_call 27; (with_reducible refine (A1 _ r1).mono ?_); rintro e w' ⟨rfl, rfl⟩) | (go_at_call 27; (with_reducible refine (A2 _ r1).mono ?_); rintro e w' ⟨rfl, rfl⟩) | (go_at_call 27; (with_reducible refine (A3 _ r1).mono ?_); rintro e w' ⟨rfl, rfl⟩)
        (go_at_call 28; (with_reducible refine (CL).mono ?_); rintro e w1 ⟨A, cc, Ls, rfl, hown, hb1⟩)
        clear hown
        go_wp2_with first | (go_at_call 29; (with_reducible refine (G1 _).mono ?_); rintro e w' ⟨rfl, rfl⟩) | (go_at_call 29; (with_reducible refine (G2 _).mono ?_); rintro e w' ⟨rfl, rfl⟩)
        go_ret
        exact ⟨rfl, hb1⟩
    · have q1 : ((ga : Int) == 1) = false := by simp; omega
      have hQ1 : isQ (gridOf N N (linF N a b c)) = false := by rw [hQ]; simp [h1]
      rw [hQ1, if_neg (by simp)] at CL
      go_enter Try.func5, Try.ntmps5
      go_wp2_with first | (go_at_call 21; (with_reducible refine (L _).mono ?_); rintro e w' ⟨rfl, rfl⟩) | (go_at_call 27; (with_reducible refine (A0 _ r0).mono ?_); rintro e w' ⟨rfl, rfl⟩) | (go_at_call 27; (with_reducible refine (A1 _ r1).mono ?_); rintro e w' ⟨rfl, rfl⟩) | (go_at_call 27; (with_reducible refine (A2 _ r1).mono ?_); rintro e w' ⟨rfl, rfl⟩) | (go_at_call 27; (with_reducible refine (A3 _ r1).mono ?_); rintro e w' ⟨rfl, rfl⟩)
      (go_at_call 28; (with_reducible refine (CL).mono ?_); rintro e w1 ⟨A, cc, Ls, rfl, hown, hb1⟩)
      clear hown
      go_wp2_with first | (go_at_call 29; (with_reducible refine (G1 _).mono ?_); rintro e w' ⟨rfl, rfl⟩) | (go_at_call 29; (with_reducible refine (G2 _).mono ?_); rintro e w' ⟨rfl, rfl⟩)
      go_ret
      exact ⟨rfl, hb1⟩
  · rw [hl] at L
    clear hl
    go_enter Try.func5, Try.ntmps5
    go_wp2_with (go_at_call 21; (with_reducible refine (L _).mono ?_); rintro e w' ⟨rfl, rfl⟩)
    go_ret
    exact ⟨rfl, Below.refl _ _⟩
end Go.Proofs.Ytiokcflomchdcaa
