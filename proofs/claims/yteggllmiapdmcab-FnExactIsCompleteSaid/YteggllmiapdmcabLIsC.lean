/-
  The walk of the law of IsComplete.
-/
import Derived.Test.YteggllmiapdmcabMapI
import Derived.Test.YteggllmiapdmcabT2
import Derived.Test.YteggllmiapdmcabHChain
import Derived.Test.YteggllmiapdmcabLast
import Derived.Test.YteggllmiapdmcabGp
import Derived.Test.YteggllmiapdmcabEqB
import Derived.Deep.RegionHeld3
namespace Go.Proofs.Yteggllmiapdmcab
open Go.RowKit

set_option maxRecDepth 1000000 in
set_option maxHeartbeats 4000000 in
theorem isC_walk (x_aG : Gp) (A_aG : Option Addr) (n_aG c_aG : Nat) (A_aOrder : Option Addr) (n_aOrder c_aOrder : Nat) (z_aOrder : List Int) (w : World) (h_aG : Rows2 w.heap.size w A_aG n_aG x_aG.G) (h_aOrder : Row .i64 w A_aOrder n_aOrder z_aOrder) :
    Calls Try.prog 8 #[gpV x_aG A_aG n_aG c_aG, .slice A_aOrder n_aOrder c_aOrder] w fun e w' => e = .returned (.bool true) ∧ Below w.heap.size w w' := by
  have le_aOrder := RowB.le h_aOrder
  by_cases big_aOrder : 1048576 < n_aOrder
  · go_enter Try.func8, Try.ntmps8
    go_wp2
    go_ret
    exact ⟨rfl, (Below.refl _ _).alloc (by simp) _⟩
  have H_aG := held_row2 h_aG
  have H_aOrder := held_row h_aOrder
  have t0 : Hid (w.heap.size ≤ w.heap.size) := Lib.hid (Nat.le_refl _)
  have bel0 : Below w.heap.size w w := Below.refl _ _
  obtain ⟨W1, hW2⟩ : ∃ W1, W1 = w.alloc (.cells #[.slice A_aG n_aG c_aG] 24) := ⟨_, rfl⟩
  have be3 : Below w.heap.size w W1 := by rw [hW2]; exact (Below.refl _ _).alloc (Nat.le_refl _) _
  have bk4 : Blk W1 w.heap.size #[.slice A_aG n_aG c_aG] 24 := by rw [hW2]; exact Blk.new _ _ _
  have lt5 : Hid (w.heap.size < W1.heap.size) := Lib.hid (Blk.lt bk4)
  have h6 := Held.ran H_aG (ran_below be3 _) (Nat.le_refl _) (.inr (Nat.le_refl _))
  have h7 := Held.ran H_aOrder (ran_below be3 _) (Nat.le_refl _) (.inr (Nat.le_refl _))
  have bel8 : Below w.heap.size w W1 := Below.trans bel0 (Below.mono be3 (Nat.le_refl _))
  have t9 : Hid (w.heap.size ≤ W1.heap.size) := Lib.hid (Nat.le_trans t0.out (Below.size be3))
  clear H_aG H_aOrder bel0
  have le10 : Hid (w.heap.size ≤ W1.heap.size) := t9
  have t11 : Hid (W1.heap.size ≤ W1.heap.size) := Lib.hid (Nat.le_refl _)
  have h12 := held_blk bk4 (Nat.le_refl _) lt5.out
  clear bk4 be3
  go_enter Try.func8, Try.ntmps8
  go_wp2_with fail
  rw [show w.alloc (.cells #[.slice A_aG n_aG c_aG] 24) = W1 from hW2.symm]
  clear hW2
  (go_at_call 14; (with_reducible refine (szGroup_any x_aG _ _ _ 1048576 _ (Rows2.up (Held.now h6) (Nat.le_trans (le10.out) t11.out)) (by omega) (by omega) (Nat.le_refl _)).mono ?_); rintro e W14 ⟨rfl, b13⟩)
  have h15 := Held.ran h6 (ran_below b13 _) (Nat.le_trans (le10.out) t11.out) (.inr (Nat.le_refl _))
  have h16 := Held.ran h7 (ran_below b13 _) (Nat.le_trans (le10.out) t11.out) (.inr (Nat.le_refl _))
  have h17 := Held.ran h12 (ran_below b13 _) (Nat.le_refl _) (.inr (Nat.le_refl _))
  have bel18 : Below w.heap.size w W14 := Below.trans bel8 (Below.mono b13 (Nat.le_trans (le10.out) t11.out))
  have t19 : Hid (W1.heap.size ≤ W14.heap.size) := Lib.hid (Nat.le_trans t11.out (Below.size b13))
  clear h6 h7 h12 bel8
  clear b13
  by_cases big20 : (1048576 : Int) < ((tot2 x_aG.G) : Nat)
  · rw [szF_big big20]
    go_wp2_with fail
    go_ret
    exact ⟨rfl, bel18⟩
  have e21 := szF_ok big20
  have H22 : Hid ((tot2 x_aG.G) ≤ 1048576) := Lib.hid (by omega)
  have hbd_aG : (tot2 x_aG.G) ≤ 1048576 := H22.out
  have hz25 : 0 ≤ szF 1048576 (tot2 x_aG.G) ∧ szF 1048576 (tot2 x_aG.G) ≤ 1048576 := by rw [e21]; omega
  generalize szF 1048576 (tot2 x_aG.G) = LEFT23 at hz25 ⊢
  clear e21 big20
  have HL24 := Lib.hid hz25
  have hz25a := hz25.1
  clear hz25
  have bk27 := Held.now h17
  have q28 := Blk.cell bk27 0
  clear bk27
  go_wp2_with fail
  have le29 : Hid (W1.heap.size ≤ W14.heap.size) := t19
  have t30 : Hid (W14.heap.size ≤ W14.heap.size) := Lib.hid (Nat.le_refl _)
  (go_at_call 16; (with_reducible refine (toGroup_any x_aG _ _ _ _ (Rows2.up (Held.now h15) (Nat.le_trans (le10.out) t19.out)) (Nat.le_refl _) H22.out).mono ?_); rintro e W31 ⟨A34, c35, L36, rfl, o33, b32⟩)
  have h40 := Held.ran h15 (ran_below b32 _) (Nat.le_trans (Nat.le_trans (le10.out) le29.out) t30.out) (.inr (Nat.le_refl _))
  have h41 := Held.ran h16 (ran_below b32 _) (Nat.le_trans (Nat.le_trans (le10.out) le29.out) t30.out) (.inr (Nat.le_refl _))
  have h42 := Held.ran h17 (ran_below b32 _) (Nat.le_trans (le29.out) t30.out) (.inr (Nat.le_refl _))
  have bel43 : Below w.heap.size w W31 := Below.trans bel18 (Below.mono b32 (Nat.le_trans (Nat.le_trans (le10.out) le29.out) t30.out))
  have t44 : Hid (W14.heap.size ≤ W31.heap.size) := Lib.hid (Nat.le_trans t30.out (Below.size b32))
  clear h15 h16 h17 bel18
  have le45 : Hid (W14.heap.size ≤ W31.heap.size) := t44
  have t46 : Hid (W31.heap.size ≤ W31.heap.size) := Lib.hid (Nat.le_refl _)
  have fr47 := Own2.from o33
  have lt48 := Own2.lt o33
  have olt49 := Own2.olt o33
  have h50 := held_own2 o33 lt48 olt49
  have ln51 : (lens L36).sum ≤ 2000000 := by rw [Own2.lens o33]; exact Nat.le_trans (sum_le_tot2 _) (Nat.le_trans H22.out (by omega))
  clear o33 b32
  clear q28
  go_wp2_with fail
  (go_at_call 30; (with_reducible refine (toInt64S_any _ _ _ _ _ (RowB.up (Held.now h41) (Nat.le_trans (Nat.le_trans (Nat.le_trans (le10.out) le29.out) le45.out) t46.out)) (by omega)).mono ?_); rintro e W53 ⟨A56, c57, rfl, o55, b54⟩)
  have h62 := Held.ran h40 (ran_below b54 _) (Nat.le_trans (Nat.le_trans (Nat.le_trans (le10.out) le29.out) le45.out) t46.out) (.inr (Nat.le_refl _))
  have h63 := Held.ran h41 (ran_below b54 _) (Nat.le_trans (Nat.le_trans (Nat.le_trans (le10.out) le29.out) le45.out) t46.out) (.inr (Nat.le_refl _))
  have h64 := Held.ran h42 (ran_below b54 _) (Nat.le_trans (Nat.le_trans (le29.out) le45.out) t46.out) (.inr (Nat.le_refl _))
  have h65 := Held.ran h50 (ran_below b54 _) (Nat.le_refl _) (.inr (Nat.le_refl _))
  have bel66 : Below w.heap.size w W53 := Below.trans bel43 (Below.mono b54 (Nat.le_trans (Nat.le_trans (Nat.le_trans (le10.out) le29.out) le45.out) t46.out))
  have t67 : Hid (W31.heap.size ≤ W53.heap.size) := Lib.hid (Nat.le_trans t46.out (Below.size b54))
  clear h40 h41 h42 h50 bel43
  have le68 : Hid (W31.heap.size ≤ W53.heap.size) := t67
  have t69 : Hid (W53.heap.size ≤ W53.heap.size) := Lib.hid (Nat.le_refl _)
  have fr70 := Own.from o55
  have lt71 := Own.lt o55
  have h72 := held_own o55 lt71
  clear o55 b54
  go_wp2_with fail
  (go_at_call 32; (with_reducible refine (specIsComplete_any x_aG _ _ _ _ _ _ z_aOrder _ (Own2.row (Held.now h65)) (Nat.le_refl _) (Own.row (Held.now h72)) (Nat.le_refl _) (Own.cap (Held.now h72))).mono ?_); rintro e W74 ⟨rfl, b73⟩)
  have h75 := Held.ran h62 (ran_below b73 _) (Nat.le_trans (Nat.le_trans (Nat.le_trans (Nat.le_trans (le10.out) le29.out) le45.out) le68.out) t69.out) (.inr (Nat.le_refl _))
  have h76 := Held.ran h63 (ran_below b73 _) (Nat.le_trans (Nat.le_trans (Nat.le_trans (Nat.le_trans (le10.out) le29.out) le45.out) le68.out) t69.out) (.inr (Nat.le_refl _))
  have h77 := Held.ran h64 (ran_below b73 _) (Nat.le_trans (Nat.le_trans (Nat.le_trans (le29.out) le45.out) le68.out) t69.out) (.inr (Nat.le_refl _))
  have h78 := Held.ran h65 (ran_below b73 _) (Nat.le_trans (le68.out) t69.out) (.inr (Nat.le_refl _))
  have h79 := Held.ran h72 (ran_below b73 _) (Nat.le_refl _) (.inr (Nat.le_refl _))
  have bel80 : Below w.heap.size w W74 := Below.trans bel66 (Below.mono b73 (Nat.le_trans (Nat.le_trans (Nat.le_trans (Nat.le_trans (le10.out) le29.out) le45.out) le68.out) t69.out))
  have t81 : Hid (W53.heap.size ≤ W74.heap.size) := Lib.hid (Nat.le_trans t69.out (Below.size b73))
  clear h62 h63 h64 h65 h72 bel66
  clear b73
  have bk82 := Held.now h77
  have q83 := Blk.cell bk82 0
  clear bk82
  go_wp2_with fail
  have le84 : Hid (W53.heap.size ≤ W74.heap.size) := t81
  have t85 : Hid (W74.heap.size ≤ W74.heap.size) := Lib.hid (Nat.le_refl _)
  (go_at_call 16; (with_reducible refine (toGroup_any x_aG _ _ _ _ (Rows2.up (Held.now h75) (Nat.le_trans (Nat.le_trans (Nat.le_trans (Nat.le_trans (le10.out) le29.out) le45.out) le68.out) t81.out)) (Nat.le_refl _) H22.out).mono ?_); rintro e W86 ⟨A89, c90, L91, rfl, o88, b87⟩)
  have h95 := Held.ran h75 (ran_below b87 _) (Nat.le_trans (Nat.le_trans (Nat.le_trans (Nat.le_trans (Nat.le_trans (le10.out) le29.out) le45.out) le68.out) le84.out) t85.out) (.inr (Nat.le_refl _))
  have h96 := Held.ran h76 (ran_below b87 _) (Nat.le_trans (Nat.le_trans (Nat.le_trans (Nat.le_trans (Nat.le_trans (le10.out) le29.out) le45.out) le68.out) le84.out) t85.out) (.inr (Nat.le_refl _))
  have h97 := Held.ran h77 (ran_below b87 _) (Nat.le_trans (Nat.le_trans (Nat.le_trans (Nat.le_trans (le29.out) le45.out) le68.out) le84.out) t85.out) (.inr (Nat.le_refl _))
  have h98 := Held.ran h78 (ran_below b87 _) (Nat.le_trans (Nat.le_trans (le68.out) le84.out) t85.out) (.inr (Nat.le_refl _))
  have h99 := Held.ran h79 (ran_below b87 _) (Nat.le_trans (le84.out) t85.out) (.inr (Nat.le_refl _))
  have bel100 : Below w.heap.size w W86 := Below.trans bel80 (Below.mono b87 (Nat.le_trans (Nat.le_trans (Nat.le_trans (Nat.le_trans (Nat.le_trans (le10.out) le29.out) le45.out) le68.out) le84.out) t85.out))
  have t101 : Hid (W74.heap.size ≤ W86.heap.size) := Lib.hid (Nat.le_trans t85.out (Below.size b87))
  clear h75 h76 h77 h78 h79 bel80
  have le102 : Hid (W74.heap.size ≤ W86.heap.size) := t101
  have t103 : Hid (W86.heap.size ≤ W86.heap.size) := Lib.hid (Nat.le_refl _)
  have fr104 := Own2.from o88
  have lt105 := Own2.lt o88
  have olt106 := Own2.olt o88
  have h107 := held_own2 o88 lt105 olt106
  have ln108 : (lens L91).sum ≤ 2000000 := by rw [Own2.lens o88]; exact Nat.le_trans (sum_le_tot2 _) (Nat.le_trans H22.out (by omega))
  clear o88 b87
  clear q83
  have bk113 := Held.now h97
  have q114 : W86.cell? ⟨w.heap.size, 0, none⟩ = some (.slice A_aG n_aG c_aG) := Blk.cell bk113 0
  clear bk113
  have lt115 : w.heap.size < W86.heap.size := Nat.lt_of_lt_of_le lt5.out (Nat.le_trans (Nat.le_trans (Nat.le_trans (Nat.le_trans (Nat.le_trans (le29.out) le45.out) le68.out) le84.out) le102.out) t103.out)
  have ne116 : w.heap.size ≠ W86.heap.size := Nat.ne_of_lt lt115
  obtain ⟨W109, hW110⟩ : ∃ W109, W109 = W86.alloc (.cells #[.slice A89 x_aG.G.length c90] 28) := ⟨_, rfl⟩
  have be111 : Below W86.heap.size W86 W109 := by rw [hW110]; exact (Below.refl _ _).alloc (Nat.le_refl _) _
  have bk112 : Blk W109 W86.heap.size #[.slice A89 x_aG.G.length c90] 28 := by rw [hW110]; exact Blk.new _ _ _
  have lt117 : Hid (W86.heap.size < W109.heap.size) := Lib.hid (Blk.lt bk112)
  have h118 := Held.ran h95 (ran_below be111 _) (Nat.le_trans (Nat.le_trans (Nat.le_trans (Nat.le_trans (Nat.le_trans (Nat.le_trans (le10.out) le29.out) le45.out) le68.out) le84.out) le102.out) t103.out) (.inr (Nat.le_refl _))
  have h119 := Held.ran h96 (ran_below be111 _) (Nat.le_trans (Nat.le_trans (Nat.le_trans (Nat.le_trans (Nat.le_trans (Nat.le_trans (le10.out) le29.out) le45.out) le68.out) le84.out) le102.out) t103.out) (.inr (Nat.le_refl _))
  have h120 := Held.ran h97 (ran_below be111 _) (Nat.le_trans (Nat.le_trans (Nat.le_trans (Nat.le_trans (Nat.le_trans (le29.out) le45.out) le68.out) le84.out) le102.out) t103.out) (.inr (Nat.le_refl _))
  have h121 := Held.ran h98 (ran_below be111 _) (Nat.le_trans (Nat.le_trans (Nat.le_trans (le68.out) le84.out) le102.out) t103.out) (.inr (Nat.le_refl _))
  have h122 := Held.ran h99 (ran_below be111 _) (Nat.le_trans (Nat.le_trans (le84.out) le102.out) t103.out) (.inr (Nat.le_refl _))
  have h123 := Held.ran h107 (ran_below be111 _) (Nat.le_refl _) (.inr (Nat.le_refl _))
  have bel124 : Below w.heap.size w W109 := Below.trans bel100 (Below.mono be111 (Nat.le_trans (Nat.le_trans (Nat.le_trans (Nat.le_trans (Nat.le_trans (Nat.le_trans (le10.out) le29.out) le45.out) le68.out) le84.out) le102.out) t103.out))
  have t125 : Hid (W86.heap.size ≤ W109.heap.size) := Lib.hid (Nat.le_trans t103.out (Below.size be111))
  clear h95 h96 h97 h98 h99 h107 bel100
  have le126 : Hid (W86.heap.size ≤ W109.heap.size) := t125
  have t127 : Hid (W109.heap.size ≤ W109.heap.size) := Lib.hid (Nat.le_refl _)
  have h128 := held_blk bk112 (Nat.le_refl _) lt117.out
  clear bk112 be111
  go_wp2_with fail
  rw [show W86.alloc (.cells #[.slice A89 x_aG.G.length c90] 28) = W109 from hW110.symm]
  clear hW110
  clear q114 lt115 ne116
  (go_at_call 30; (with_reducible refine (toInt64S_any _ _ _ _ _ (RowB.up (Held.now h119) (Nat.le_trans (Nat.le_trans (Nat.le_trans (Nat.le_trans (Nat.le_trans (Nat.le_trans (Nat.le_trans (le10.out) le29.out) le45.out) le68.out) le84.out) le102.out) le126.out) t127.out)) (by omega)).mono ?_); rintro e W129 ⟨A132, c133, rfl, o131, b130⟩)
  have h138 := Held.ran h118 (ran_below b130 _) (Nat.le_trans (Nat.le_trans (Nat.le_trans (Nat.le_trans (Nat.le_trans (Nat.le_trans (Nat.le_trans (le10.out) le29.out) le45.out) le68.out) le84.out) le102.out) le126.out) t127.out) (.inr (Nat.le_refl _))
  have h139 := Held.ran h119 (ran_below b130 _) (Nat.le_trans (Nat.le_trans (Nat.le_trans (Nat.le_trans (Nat.le_trans (Nat.le_trans (Nat.le_trans (le10.out) le29.out) le45.out) le68.out) le84.out) le102.out) le126.out) t127.out) (.inr (Nat.le_refl _))
  have h140 := Held.ran h120 (ran_below b130 _) (Nat.le_trans (Nat.le_trans (Nat.le_trans (Nat.le_trans (Nat.le_trans (Nat.le_trans (le29.out) le45.out) le68.out) le84.out) le102.out) le126.out) t127.out) (.inr (Nat.le_refl _))
  have h141 := Held.ran h121 (ran_below b130 _) (Nat.le_trans (Nat.le_trans (Nat.le_trans (Nat.le_trans (le68.out) le84.out) le102.out) le126.out) t127.out) (.inr (Nat.le_refl _))
  have h142 := Held.ran h122 (ran_below b130 _) (Nat.le_trans (Nat.le_trans (Nat.le_trans (le84.out) le102.out) le126.out) t127.out) (.inr (Nat.le_refl _))
  have h143 := Held.ran h123 (ran_below b130 _) (Nat.le_trans (le126.out) t127.out) (.inr (Nat.le_refl _))
  have h144 := Held.ran h128 (ran_below b130 _) (Nat.le_refl _) (.inr (Nat.le_refl _))
  have bel145 : Below w.heap.size w W129 := Below.trans bel124 (Below.mono b130 (Nat.le_trans (Nat.le_trans (Nat.le_trans (Nat.le_trans (Nat.le_trans (Nat.le_trans (Nat.le_trans (le10.out) le29.out) le45.out) le68.out) le84.out) le102.out) le126.out) t127.out))
  have t146 : Hid (W109.heap.size ≤ W129.heap.size) := Lib.hid (Nat.le_trans t127.out (Below.size b130))
  clear h118 h119 h120 h121 h122 h123 h128 bel124
  have le147 : Hid (W109.heap.size ≤ W129.heap.size) := t146
  have t148 : Hid (W129.heap.size ≤ W129.heap.size) := Lib.hid (Nat.le_refl _)
  have fr149 := Own.from o131
  have lt150 := Own.lt o131
  have h151 := held_own o131 lt150
  clear o131 b130
  have bk152 := Held.now h144
  have q153 := Blk.cell bk152 0
  clear bk152
  go_wp2_with fail
  (go_at_call 33; (with_reducible refine (implIsComplete_any x_aG _ _ _ _ _ _ z_aOrder _ (Own2.row (Held.now h143)) (Nat.le_refl _) (Own.row (Held.now h151)) (Nat.le_refl _)).mono ?_); rintro e W155 ⟨rfl, b154⟩)
  have h156 := Held.ran h138 (ran_below b154 _) (Nat.le_trans (Nat.le_trans (Nat.le_trans (Nat.le_trans (Nat.le_trans (Nat.le_trans (Nat.le_trans (Nat.le_trans (le10.out) le29.out) le45.out) le68.out) le84.out) le102.out) le126.out) le147.out) t148.out) (.inr (Nat.le_refl _))
  have h157 := Held.ran h139 (ran_below b154 _) (Nat.le_trans (Nat.le_trans (Nat.le_trans (Nat.le_trans (Nat.le_trans (Nat.le_trans (Nat.le_trans (Nat.le_trans (le10.out) le29.out) le45.out) le68.out) le84.out) le102.out) le126.out) le147.out) t148.out) (.inr (Nat.le_refl _))
  have h158 := Held.ran h140 (ran_below b154 _) (Nat.le_trans (Nat.le_trans (Nat.le_trans (Nat.le_trans (Nat.le_trans (Nat.le_trans (Nat.le_trans (le29.out) le45.out) le68.out) le84.out) le102.out) le126.out) le147.out) t148.out) (.inr (Nat.le_refl _))
  have h159 := Held.ran h141 (ran_below b154 _) (Nat.le_trans (Nat.le_trans (Nat.le_trans (Nat.le_trans (Nat.le_trans (le68.out) le84.out) le102.out) le126.out) le147.out) t148.out) (.inr (Nat.le_refl _))
  have h160 := Held.ran h142 (ran_below b154 _) (Nat.le_trans (Nat.le_trans (Nat.le_trans (Nat.le_trans (le84.out) le102.out) le126.out) le147.out) t148.out) (.inr (Nat.le_refl _))
  have h161 := Held.ran h143 (ran_below b154 _) (Nat.le_trans (Nat.le_trans (le126.out) le147.out) t148.out) (.inr (Nat.le_refl _))
  have h162 := Held.ran h144 (ran_below b154 _) (Nat.le_trans (le147.out) t148.out) (.inr (Nat.le_refl _))
  have h163 := Held.ran h151 (ran_below b154 _) (Nat.le_refl _) (.inr (Nat.le_refl _))
  have bel164 : Below w.heap.size w W155 := Below.trans bel145 (Below.mono b154 (Nat.le_trans (Nat.le_trans (Nat.le_trans (Nat.le_trans (Nat.le_trans (Nat.le_trans (Nat.le_trans (Nat.le_trans (le10.out) le29.out) le45.out) le68.out) le84.out) le102.out) le126.out) le147.out) t148.out))
  have t165 : Hid (W129.heap.size ≤ W155.heap.size) := Lib.hid (Nat.le_trans t148.out (Below.size b154))
  clear h138 h139 h140 h141 h142 h143 h144 h151 bel145
  clear b154
  clear q153
  have bk166 := Held.now h162
  have q167 : W155.cell? ⟨W86.heap.size, 0, none⟩ = some (.slice A89 x_aG.G.length c90) := Blk.cell bk166 0
  clear bk166
  have bk168 := Held.now h158
  have q169 : W155.cell? ⟨w.heap.size, 0, none⟩ = some (.slice A_aG n_aG c_aG) := Blk.cell bk168 0
  clear bk168
  go_wp2_with fail
  have h170 := Held.ran h156 (ran_drew W155 _) (Nat.le_trans (Nat.le_trans (Nat.le_trans (Nat.le_trans (Nat.le_trans (Nat.le_trans (Nat.le_trans (Nat.le_trans (le10.out) le29.out) le45.out) le68.out) le84.out) le102.out) le126.out) le147.out) t165.out) (.inr (Nat.le_refl _))
  have h171 := Held.ran h157 (ran_drew W155 _) (Nat.le_trans (Nat.le_trans (Nat.le_trans (Nat.le_trans (Nat.le_trans (Nat.le_trans (Nat.le_trans (Nat.le_trans (le10.out) le29.out) le45.out) le68.out) le84.out) le102.out) le126.out) le147.out) t165.out) (.inr (Nat.le_refl _))
  have h172 := Held.ran h158 (ran_drew W155 _) (Nat.le_trans (Nat.le_trans (Nat.le_trans (Nat.le_trans (Nat.le_trans (Nat.le_trans (Nat.le_trans (le29.out) le45.out) le68.out) le84.out) le102.out) le126.out) le147.out) t165.out) (.inr (Nat.le_refl _))
  have h173 := Held.ran h159 (ran_drew W155 _) (Nat.le_trans (Nat.le_trans (Nat.le_trans (Nat.le_trans (Nat.le_trans (le68.out) le84.out) le102.out) le126.out) le147.out) t165.out) (.inr (Nat.le_refl _))
  have h174 := Held.ran h160 (ran_drew W155 _) (Nat.le_trans (Nat.le_trans (Nat.le_trans (Nat.le_trans (le84.out) le102.out) le126.out) le147.out) t165.out) (.inr (Nat.le_refl _))
  have h175 := Held.ran h161 (ran_drew W155 _) (Nat.le_trans (Nat.le_trans (le126.out) le147.out) t165.out) (.inr (Nat.le_refl _))
  have h176 := Held.ran h162 (ran_drew W155 _) (Nat.le_trans (le147.out) t165.out) (.inr (Nat.le_refl _))
  have h177 := Held.ran h163 (ran_drew W155 _) (Nat.le_trans (Nat.le_refl _) t165.out) (.inr (Nat.le_refl _))
  have bel178 : Below w.heap.size w (World.drew W155) := below_drew bel164
  have t179 : Hid (W129.heap.size ≤ ((World.drew W155)).heap.size) := t165
  clear h156 h157 h158 h159 h160 h161 h162 h163 bel164
  have le181 : Hid (W129.heap.size ≤ (World.drew W155).heap.size) := t179
  have t182 : Hid ((World.drew W155).heap.size ≤ (World.drew W155).heap.size) := Lib.hid (Nat.le_refl _)
  refine region_held_n 5 (fun w' => w'.cell? ⟨W86.heap.size, 0, none⟩ = some (.slice A89 x_aG.G.length c90) ∧ w'.cell? ⟨w.heap.size, 0, none⟩ = some (.slice A_aG n_aG c_aG)) (by kernel_rfl) (by kernel_rfl) ⟨q167, q169⟩ (fun hS => ?_)
  refine takeD 0 (some 33) (v := ?_) rfl (by kernel_rfl) (by kernel_rfl) (by kernel_rfl) (fun _ _ _ h => h) hS (fun o ho => Or.inl ⟨by cases ho; rfl, ?_⟩) ?_
  rotate_left
  · cases ho
    intro w' hw'
    (try dsimp only at hw')
    go_simp
    (try with_reducible rfl)
  (try simp only [Act.put, List.setIfInBounds_toArray, List.set_cons_zero, List.set_cons_succ])
  refine takeD 1 (some 34) (v := ?_) rfl (by kernel_rfl) (by kernel_rfl) (by kernel_rfl) (fun _ _ _ h => h) hS (fun o ho => Or.inl ⟨by cases ho; rfl, ?_⟩) ?_
  rotate_left
  · cases ho
    intro w' hw'
    (try dsimp only at hw')
    go_simp
    (try with_reducible rfl)
  (try simp only [Act.put, List.setIfInBounds_toArray, List.set_cons_zero, List.set_cons_succ])
  refine oneD 2 (some 35) (by kernel_rfl) rfl (fun o ho K hK hdo => ?_)
  simp only [List.getElem?_toArray, List.getElem?_cons_succ, List.getElem?_cons_zero, Option.some.injEq] at ho
  subst ho
  clear hdo
  rw [if_pos (by rfl)]
  go_wp2_with ((go_at_call 16; (with_reducible refine (toGroup_any x_aG _ _ _ _ (Rows2.up (Held.now h170) (Nat.le_trans (Nat.le_trans (Nat.le_trans (Nat.le_trans (Nat.le_trans (Nat.le_trans (Nat.le_trans (Nat.le_trans (le10.out) le29.out) le45.out) le68.out) le84.out) le102.out) le126.out) le147.out) t179.out)) (Nat.le_refl _) H22.out).mono ?_); rintro e W183 ⟨A186, c187, L188, rfl, o185, b184⟩))
  have h192 := Held.ran h170 (ran_below b184 _) (Nat.le_trans (Nat.le_trans (Nat.le_trans (Nat.le_trans (Nat.le_trans (Nat.le_trans (Nat.le_trans (Nat.le_trans (Nat.le_trans (le10.out) le29.out) le45.out) le68.out) le84.out) le102.out) le126.out) le147.out) le181.out) t182.out) (.inr (Nat.le_refl _))
  have h193 := Held.ran h171 (ran_below b184 _) (Nat.le_trans (Nat.le_trans (Nat.le_trans (Nat.le_trans (Nat.le_trans (Nat.le_trans (Nat.le_trans (Nat.le_trans (Nat.le_trans (le10.out) le29.out) le45.out) le68.out) le84.out) le102.out) le126.out) le147.out) le181.out) t182.out) (.inr (Nat.le_refl _))
  have h194 := Held.ran h172 (ran_below b184 _) (Nat.le_trans (Nat.le_trans (Nat.le_trans (Nat.le_trans (Nat.le_trans (Nat.le_trans (Nat.le_trans (Nat.le_trans (le29.out) le45.out) le68.out) le84.out) le102.out) le126.out) le147.out) le181.out) t182.out) (.inr (Nat.le_refl _))
  have h195 := Held.ran h173 (ran_below b184 _) (Nat.le_trans (Nat.le_trans (Nat.le_trans (Nat.le_trans (Nat.le_trans (Nat.le_trans (le68.out) le84.out) le102.out) le126.out) le147.out) le181.out) t182.out) (.inr (Nat.le_refl _))
  have h196 := Held.ran h174 (ran_below b184 _) (Nat.le_trans (Nat.le_trans (Nat.le_trans (Nat.le_trans (Nat.le_trans (le84.out) le102.out) le126.out) le147.out) le181.out) t182.out) (.inr (Nat.le_refl _))
  have h197 := Held.ran h175 (ran_below b184 _) (Nat.le_trans (Nat.le_trans (Nat.le_trans (le126.out) le147.out) le181.out) t182.out) (.inr (Nat.le_refl _))
  have h198 := Held.ran h176 (ran_below b184 _) (Nat.le_trans (Nat.le_trans (le147.out) le181.out) t182.out) (.inr (Nat.le_refl _))
  have h199 := Held.ran h177 (ran_below b184 _) (Nat.le_trans (le181.out) t182.out) (.inr (Nat.le_refl _))
  have bel200 : Below w.heap.size w W183 := Below.trans bel178 (Below.mono b184 (Nat.le_trans (Nat.le_trans (Nat.le_trans (Nat.le_trans (Nat.le_trans (Nat.le_trans (Nat.le_trans (Nat.le_trans (Nat.le_trans (le10.out) le29.out) le45.out) le68.out) le84.out) le102.out) le126.out) le147.out) le181.out) t182.out))
  have t201 : Hid ((World.drew W155).heap.size ≤ W183.heap.size) := Lib.hid (Nat.le_trans t182.out (Below.size b184))
  clear h170 h171 h172 h173 h174 h175 h176 h177 bel178
  have le202 : Hid ((World.drew W155).heap.size ≤ W183.heap.size) := t201
  have t203 : Hid (W183.heap.size ≤ W183.heap.size) := Lib.hid (Nat.le_refl _)
  have fr204 := Own2.from o185
  have lt205 := Own2.lt o185
  have olt206 := Own2.olt o185
  have h207 := held_own2 o185 lt205 olt206
  have ln208 : (lens L188).sum ≤ 2000000 := by rw [Own2.lens o185]; exact Nat.le_trans (sum_le_tot2 _) (Nat.le_trans H22.out (by omega))
  clear o185 b184
  have bk209 := Held.now h198
  have q210 : W183.cell? ⟨W86.heap.size, 0, none⟩ = some (.slice A89 x_aG.G.length c90) := Blk.cell bk209 0
  clear bk209
  have bk211 := Held.now h194
  have q212 : W183.cell? ⟨w.heap.size, 0, none⟩ = some (.slice A_aG n_aG c_aG) := Blk.cell bk211 0
  clear bk211
  refine hK.out _ _ ?_ (fun hS => ?_)
  · exact ⟨q210, q212⟩
  clear hK K
  (try simp only [Act.put, List.setIfInBounds_toArray, List.set_cons_zero, List.set_cons_succ])
  refine oneD 3 (some 36) (by kernel_rfl) rfl (fun o ho K hK hdo => ?_)
  simp only [List.getElem?_toArray, List.getElem?_cons_succ, List.getElem?_cons_zero, Option.some.injEq] at ho
  subst ho
  clear hdo
  rw [if_pos (by rfl)]
  go_wp2_with ((go_at_call 18; (with_reducible refine (eqGroup_any x_aG _ _ _ _ _ _ (Own2.row (Held.now h197)) (Own2.row (Held.now h207)) (Nat.le_refl _) (Nat.le_refl _)).mono ?_); rintro e W214 ⟨rfl, b213⟩))
  have h215 := Held.ran h192 (ran_below b213 _) (Nat.le_trans (Nat.le_trans (Nat.le_trans (Nat.le_trans (Nat.le_trans (Nat.le_trans (Nat.le_trans (Nat.le_trans (Nat.le_trans (Nat.le_trans (le10.out) le29.out) le45.out) le68.out) le84.out) le102.out) le126.out) le147.out) le181.out) le202.out) t203.out) (.inr (Nat.le_refl _))
  have h216 := Held.ran h193 (ran_below b213 _) (Nat.le_trans (Nat.le_trans (Nat.le_trans (Nat.le_trans (Nat.le_trans (Nat.le_trans (Nat.le_trans (Nat.le_trans (Nat.le_trans (Nat.le_trans (le10.out) le29.out) le45.out) le68.out) le84.out) le102.out) le126.out) le147.out) le181.out) le202.out) t203.out) (.inr (Nat.le_refl _))
  have h217 := Held.ran h194 (ran_below b213 _) (Nat.le_trans (Nat.le_trans (Nat.le_trans (Nat.le_trans (Nat.le_trans (Nat.le_trans (Nat.le_trans (Nat.le_trans (Nat.le_trans (le29.out) le45.out) le68.out) le84.out) le102.out) le126.out) le147.out) le181.out) le202.out) t203.out) (.inr (Nat.le_refl _))
  have h218 := Held.ran h195 (ran_below b213 _) (Nat.le_trans (Nat.le_trans (Nat.le_trans (Nat.le_trans (Nat.le_trans (Nat.le_trans (Nat.le_trans (le68.out) le84.out) le102.out) le126.out) le147.out) le181.out) le202.out) t203.out) (.inr (Nat.le_refl _))
  have h219 := Held.ran h196 (ran_below b213 _) (Nat.le_trans (Nat.le_trans (Nat.le_trans (Nat.le_trans (Nat.le_trans (Nat.le_trans (le84.out) le102.out) le126.out) le147.out) le181.out) le202.out) t203.out) (.inr (Nat.le_refl _))
  have h220 := Held.ran h197 (ran_below b213 _) (Nat.le_trans (Nat.le_trans (Nat.le_trans (Nat.le_trans (le126.out) le147.out) le181.out) le202.out) t203.out) (.inr (Nat.le_refl _))
  have h221 := Held.ran h198 (ran_below b213 _) (Nat.le_trans (Nat.le_trans (Nat.le_trans (le147.out) le181.out) le202.out) t203.out) (.inr (Nat.le_refl _))
  have h222 := Held.ran h199 (ran_below b213 _) (Nat.le_trans (Nat.le_trans (le181.out) le202.out) t203.out) (.inr (Nat.le_refl _))
  have h223 := Held.ran h207 (ran_below b213 _) (Nat.le_refl _) (.inr (Nat.le_refl _))
  have bel224 : Below w.heap.size w W214 := Below.trans bel200 (Below.mono b213 (Nat.le_trans (Nat.le_trans (Nat.le_trans (Nat.le_trans (Nat.le_trans (Nat.le_trans (Nat.le_trans (Nat.le_trans (Nat.le_trans (Nat.le_trans (le10.out) le29.out) le45.out) le68.out) le84.out) le102.out) le126.out) le147.out) le181.out) le202.out) t203.out))
  have t225 : Hid (W183.heap.size ≤ W214.heap.size) := Lib.hid (Nat.le_trans t203.out (Below.size b213))
  clear h192 h193 h194 h195 h196 h197 h198 h199 h207 bel200
  have bk226 := Held.now h221
  have q227 : W214.cell? ⟨W86.heap.size, 0, none⟩ = some (.slice A89 x_aG.G.length c90) := Blk.cell bk226 0
  clear bk226
  have bk228 := Held.now h217
  have q229 : W214.cell? ⟨w.heap.size, 0, none⟩ = some (.slice A_aG n_aG c_aG) := Blk.cell bk228 0
  clear bk228
  clear b213
  refine hK.out _ _ ?_ (fun hS => ?_)
  · exact ⟨q227, q229⟩
  clear hK K
  (try simp only [Act.put, List.setIfInBounds_toArray, List.set_cons_zero, List.set_cons_succ])
  refine takeD 4 (some 37) (v := ?_) rfl (by kernel_rfl) (by kernel_rfl) (by kernel_rfl) (fun _ _ _ h => h) hS (fun o ho => Or.inl ⟨by cases ho; rfl, ?_⟩) ?_
  rotate_left
  · cases ho
    intro w' hw'
    (try dsimp only at hw')
    go_simp
    (try with_reducible rfl)
  (try simp only [Act.put, List.setIfInBounds_toArray, List.set_cons_zero, List.set_cons_succ])
  refine wpAnyH_done (by kernel_rfl) ?_ _
  clear hS
  clear q167 q169 q210 q212 q227 q229
  go_wp2_with fail
  have le231 : Hid (W183.heap.size ≤ W214.heap.size) := t225
  have t232 : Hid (W214.heap.size ≤ W214.heap.size) := Lib.hid (Nat.le_refl _)
  (go_at_call 30; (with_reducible refine (toInt64S_any _ _ _ _ _ (RowB.up (Held.now h216) (Nat.le_trans (Nat.le_trans (Nat.le_trans (Nat.le_trans (Nat.le_trans (Nat.le_trans (Nat.le_trans (Nat.le_trans (Nat.le_trans (Nat.le_trans (le10.out) le29.out) le45.out) le68.out) le84.out) le102.out) le126.out) le147.out) le181.out) le202.out) t225.out)) (by omega)).mono ?_); rintro e W233 ⟨A236, c237, rfl, o235, b234⟩)
  have h242 := Held.ran h215 (ran_below b234 _) (Nat.le_trans (Nat.le_trans (Nat.le_trans (Nat.le_trans (Nat.le_trans (Nat.le_trans (Nat.le_trans (Nat.le_trans (Nat.le_trans (Nat.le_trans (Nat.le_trans (le10.out) le29.out) le45.out) le68.out) le84.out) le102.out) le126.out) le147.out) le181.out) le202.out) le231.out) t232.out) (.inr (Nat.le_refl _))
  have h243 := Held.ran h216 (ran_below b234 _) (Nat.le_trans (Nat.le_trans (Nat.le_trans (Nat.le_trans (Nat.le_trans (Nat.le_trans (Nat.le_trans (Nat.le_trans (Nat.le_trans (Nat.le_trans (Nat.le_trans (le10.out) le29.out) le45.out) le68.out) le84.out) le102.out) le126.out) le147.out) le181.out) le202.out) le231.out) t232.out) (.inr (Nat.le_refl _))
  have h244 := Held.ran h217 (ran_below b234 _) (Nat.le_trans (Nat.le_trans (Nat.le_trans (Nat.le_trans (Nat.le_trans (Nat.le_trans (Nat.le_trans (Nat.le_trans (Nat.le_trans (Nat.le_trans (le29.out) le45.out) le68.out) le84.out) le102.out) le126.out) le147.out) le181.out) le202.out) le231.out) t232.out) (.inr (Nat.le_refl _))
  have h245 := Held.ran h218 (ran_below b234 _) (Nat.le_trans (Nat.le_trans (Nat.le_trans (Nat.le_trans (Nat.le_trans (Nat.le_trans (Nat.le_trans (Nat.le_trans (le68.out) le84.out) le102.out) le126.out) le147.out) le181.out) le202.out) le231.out) t232.out) (.inr (Nat.le_refl _))
  have h246 := Held.ran h219 (ran_below b234 _) (Nat.le_trans (Nat.le_trans (Nat.le_trans (Nat.le_trans (Nat.le_trans (Nat.le_trans (Nat.le_trans (le84.out) le102.out) le126.out) le147.out) le181.out) le202.out) le231.out) t232.out) (.inr (Nat.le_refl _))
  have h247 := Held.ran h220 (ran_below b234 _) (Nat.le_trans (Nat.le_trans (Nat.le_trans (Nat.le_trans (Nat.le_trans (le126.out) le147.out) le181.out) le202.out) le231.out) t232.out) (.inr (Nat.le_refl _))
  have h248 := Held.ran h221 (ran_below b234 _) (Nat.le_trans (Nat.le_trans (Nat.le_trans (Nat.le_trans (le147.out) le181.out) le202.out) le231.out) t232.out) (.inr (Nat.le_refl _))
  have h249 := Held.ran h222 (ran_below b234 _) (Nat.le_trans (Nat.le_trans (Nat.le_trans (le181.out) le202.out) le231.out) t232.out) (.inr (Nat.le_refl _))
  have h250 := Held.ran h223 (ran_below b234 _) (Nat.le_trans (le231.out) t232.out) (.inr (Nat.le_refl _))
  have bel251 : Below w.heap.size w W233 := Below.trans bel224 (Below.mono b234 (Nat.le_trans (Nat.le_trans (Nat.le_trans (Nat.le_trans (Nat.le_trans (Nat.le_trans (Nat.le_trans (Nat.le_trans (Nat.le_trans (Nat.le_trans (Nat.le_trans (le10.out) le29.out) le45.out) le68.out) le84.out) le102.out) le126.out) le147.out) le181.out) le202.out) le231.out) t232.out))
  have t252 : Hid (W214.heap.size ≤ W233.heap.size) := Lib.hid (Nat.le_trans t232.out (Below.size b234))
  clear h215 h216 h217 h218 h219 h220 h221 h222 h223 bel224
  have le253 : Hid (W214.heap.size ≤ W233.heap.size) := t252
  have t254 : Hid (W233.heap.size ≤ W233.heap.size) := Lib.hid (Nat.le_refl _)
  have fr255 := Own.from o235
  have lt256 := Own.lt o235
  have h257 := held_own o235 lt256
  clear o235 b234
  go_wp2_with fail
  (go_at_call 25; (with_reducible refine (eqInt64SB_any _ _ _ _ _ _ _ (Own.row (Held.now h249)) (Own.row (Held.now h257))).mono ?_); rintro e W259 ⟨rfl, b258⟩)
  have h260 := Held.ran h242 (ran_below b258 _) (Nat.le_trans (Nat.le_trans (Nat.le_trans (Nat.le_trans (Nat.le_trans (Nat.le_trans (Nat.le_trans (Nat.le_trans (Nat.le_trans (Nat.le_trans (Nat.le_trans (Nat.le_trans (le10.out) le29.out) le45.out) le68.out) le84.out) le102.out) le126.out) le147.out) le181.out) le202.out) le231.out) le253.out) t254.out) (.inr (Nat.le_refl _))
  have h261 := Held.ran h243 (ran_below b258 _) (Nat.le_trans (Nat.le_trans (Nat.le_trans (Nat.le_trans (Nat.le_trans (Nat.le_trans (Nat.le_trans (Nat.le_trans (Nat.le_trans (Nat.le_trans (Nat.le_trans (Nat.le_trans (le10.out) le29.out) le45.out) le68.out) le84.out) le102.out) le126.out) le147.out) le181.out) le202.out) le231.out) le253.out) t254.out) (.inr (Nat.le_refl _))
  have h262 := Held.ran h244 (ran_below b258 _) (Nat.le_trans (Nat.le_trans (Nat.le_trans (Nat.le_trans (Nat.le_trans (Nat.le_trans (Nat.le_trans (Nat.le_trans (Nat.le_trans (Nat.le_trans (Nat.le_trans (le29.out) le45.out) le68.out) le84.out) le102.out) le126.out) le147.out) le181.out) le202.out) le231.out) le253.out) t254.out) (.inr (Nat.le_refl _))
  have h263 := Held.ran h245 (ran_below b258 _) (Nat.le_trans (Nat.le_trans (Nat.le_trans (Nat.le_trans (Nat.le_trans (Nat.le_trans (Nat.le_trans (Nat.le_trans (Nat.le_trans (le68.out) le84.out) le102.out) le126.out) le147.out) le181.out) le202.out) le231.out) le253.out) t254.out) (.inr (Nat.le_refl _))
  have h264 := Held.ran h246 (ran_below b258 _) (Nat.le_trans (Nat.le_trans (Nat.le_trans (Nat.le_trans (Nat.le_trans (Nat.le_trans (Nat.le_trans (Nat.le_trans (le84.out) le102.out) le126.out) le147.out) le181.out) le202.out) le231.out) le253.out) t254.out) (.inr (Nat.le_refl _))
  have h265 := Held.ran h247 (ran_below b258 _) (Nat.le_trans (Nat.le_trans (Nat.le_trans (Nat.le_trans (Nat.le_trans (Nat.le_trans (le126.out) le147.out) le181.out) le202.out) le231.out) le253.out) t254.out) (.inr (Nat.le_refl _))
  have h266 := Held.ran h248 (ran_below b258 _) (Nat.le_trans (Nat.le_trans (Nat.le_trans (Nat.le_trans (Nat.le_trans (le147.out) le181.out) le202.out) le231.out) le253.out) t254.out) (.inr (Nat.le_refl _))
  have h267 := Held.ran h249 (ran_below b258 _) (Nat.le_trans (Nat.le_trans (Nat.le_trans (Nat.le_trans (le181.out) le202.out) le231.out) le253.out) t254.out) (.inr (Nat.le_refl _))
  have h268 := Held.ran h250 (ran_below b258 _) (Nat.le_trans (Nat.le_trans (le231.out) le253.out) t254.out) (.inr (Nat.le_refl _))
  have h269 := Held.ran h257 (ran_below b258 _) (Nat.le_refl _) (.inr (Nat.le_refl _))
  have bel270 : Below w.heap.size w W259 := Below.trans bel251 (Below.mono b258 (Nat.le_trans (Nat.le_trans (Nat.le_trans (Nat.le_trans (Nat.le_trans (Nat.le_trans (Nat.le_trans (Nat.le_trans (Nat.le_trans (Nat.le_trans (Nat.le_trans (Nat.le_trans (le10.out) le29.out) le45.out) le68.out) le84.out) le102.out) le126.out) le147.out) le181.out) le202.out) le231.out) le253.out) t254.out))
  have t271 : Hid (W233.heap.size ≤ W259.heap.size) := Lib.hid (Nat.le_trans t254.out (Below.size b258))
  clear h242 h243 h244 h245 h246 h247 h248 h249 h250 h257 bel251
  clear b258
  go_wp2_with fail
  go_ret
  exact ⟨rfl, bel270⟩
end Go.Proofs.Yteggllmiapdmcab
