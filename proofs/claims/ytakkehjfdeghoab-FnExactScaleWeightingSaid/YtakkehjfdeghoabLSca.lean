/-
  The walk of the law of ScaleWeighting.
-/
import Derived.Test.YtakkehjfdeghoabSca
import Derived.Test.YtakkehjfdeghoabHBlk
import Derived.Test.YtakkehjfdeghoabLast
import Derived.Deep.RegionHeld3
namespace Go.Proofs.Ytakkehjfdeghoab
open Go.RowKit

set_option maxRecDepth 1000000 in
set_option maxHeartbeats 4000000 in
theorem sca_walk (x_aW : Wt) (A_aW : Option Addr) (n_aW c_aW : Nat) (i_aBy : Int) (w : World) (h_aW : Row .i64 w A_aW n_aW x_aW.W) :
    Calls Try.prog 12 #[wtV x_aW A_aW n_aW c_aW, .int .i64 i_aBy] w fun e w' => e = .returned (.bool true) ∧ Below w.heap.size w w' := by
  have hrl := scaR_len x_aW i_aBy
  have H_aW := held_row h_aW
  have t0 : Hid (w.heap.size ≤ w.heap.size) := Lib.hid (Nat.le_refl _)
  have bel0 : Below w.heap.size w w := Below.refl _ _
  obtain ⟨W1, hW2⟩ : ∃ W1, W1 = w.alloc (.cells #[.int .i64 x_aW.base, .int .i64 x_aW.modulus, .int .i64 x_aW.target, .slice A_aW n_aW c_aW] 41) := ⟨_, rfl⟩
  have be3 : Below w.heap.size w W1 := by rw [hW2]; exact (Below.refl _ _).alloc (Nat.le_refl _) _
  have bk4 : Blk W1 w.heap.size #[.int .i64 x_aW.base, .int .i64 x_aW.modulus, .int .i64 x_aW.target, .slice A_aW n_aW c_aW] 41 := by rw [hW2]; exact Blk.new _ _ _
  have lt5 : Hid (w.heap.size < W1.heap.size) := Lib.hid (Blk.lt bk4)
  have h6 := Held.ran H_aW (ran_below be3 _) (Nat.le_refl _) (.inr (Nat.le_refl _))
  have bel7 : Below w.heap.size w W1 := Below.trans bel0 (Below.mono be3 (Nat.le_refl _))
  have t8 : Hid (w.heap.size ≤ W1.heap.size) := Lib.hid (Nat.le_trans t0.out (Below.size be3))
  clear H_aW bel0
  have le9 : Hid (w.heap.size ≤ W1.heap.size) := t8
  have t10 : Hid (W1.heap.size ≤ W1.heap.size) := Lib.hid (Nat.le_refl _)
  have h11 := held_blk bk4 (Nat.le_refl _) lt5.out
  clear bk4 be3
  go_enter Try.func12, Try.ntmps12
  go_wp2_with fail
  rw [show w.alloc (.cells #[.int .i64 x_aW.base, .int .i64 x_aW.modulus, .int .i64 x_aW.target, .slice A_aW n_aW c_aW] 41) = W1 from hW2.symm]
  clear hW2
  (go_at_call 28; (with_reducible refine (szWeighting_any x_aW _ _ _ 1048576 _ (RowB.up (Held.now h6) (Nat.le_trans (le9.out) t10.out)) (by omega) (by omega) (Nat.le_refl _)).mono ?_); rintro e W13 ⟨rfl, b12⟩)
  have h14 := Held.ran h6 (ran_below b12 _) (Nat.le_trans (le9.out) t10.out) (.inr (Nat.le_refl _))
  have h15 := Held.ran h11 (ran_below b12 _) (Nat.le_refl _) (.inr (Nat.le_refl _))
  have bel16 : Below w.heap.size w W13 := Below.trans bel7 (Below.mono b12 (Nat.le_trans (le9.out) t10.out))
  have t17 : Hid (W1.heap.size ≤ W13.heap.size) := Lib.hid (Nat.le_trans t10.out (Below.size b12))
  clear h6 h11 bel7
  clear b12
  by_cases big18 : (1048576 : Int) < (x_aW.W.length : Nat)
  · rw [szF_big big18]
    go_wp2_with fail
    go_ret
    exact ⟨rfl, bel16⟩
  have e19 := szF_ok big18
  have H20 : Hid (x_aW.W.length ≤ 1048576) := Lib.hid (by omega)
  have hbd_aW : x_aW.W.length ≤ 1048576 := H20.out
  have hz23 : 0 ≤ szF 1048576 x_aW.W.length ∧ szF 1048576 x_aW.W.length ≤ 1048576 := by rw [e19]; omega
  generalize szF 1048576 x_aW.W.length = LEFT21 at hz23 ⊢
  clear e19 big18
  have HL22 := Lib.hid hz23
  have hz23a := hz23.1
  clear hz23
  have bk25 := Held.now h15
  have q26 := Blk.cell bk25 0
  have q27 := Blk.cell bk25 1
  have q28 := Blk.cell bk25 2
  have q29 := Blk.cell bk25 3
  clear bk25
  go_wp2_with fail
  have le30 : Hid (W1.heap.size ≤ W13.heap.size) := t17
  have t31 : Hid (W13.heap.size ≤ W13.heap.size) := Lib.hid (Nat.le_refl _)
  (go_at_call 30; (with_reducible refine (toWeighting_any x_aW _ _ _ _ (RowB.up (Held.now h14) (Nat.le_trans (le9.out) t17.out)) (Nat.le_refl _) H20.out).mono ?_); rintro e W32 ⟨A35, c36, rfl, o34, b33⟩)
  have h41 := Held.ran h14 (ran_below b33 _) (Nat.le_trans (Nat.le_trans (le9.out) le30.out) t31.out) (.inr (Nat.le_refl _))
  have h42 := Held.ran h15 (ran_below b33 _) (Nat.le_trans (le30.out) t31.out) (.inr (Nat.le_refl _))
  have bel43 : Below w.heap.size w W32 := Below.trans bel16 (Below.mono b33 (Nat.le_trans (Nat.le_trans (le9.out) le30.out) t31.out))
  have t44 : Hid (W13.heap.size ≤ W32.heap.size) := Lib.hid (Nat.le_trans t31.out (Below.size b33))
  clear h14 h15 bel16
  have le45 : Hid (W13.heap.size ≤ W32.heap.size) := t44
  have t46 : Hid (W32.heap.size ≤ W32.heap.size) := Lib.hid (Nat.le_refl _)
  have fr47 := Own.from o34
  have lt48 := Own.lt o34
  have h49 := held_own o34 lt48
  clear o34 b33
  clear q26
  clear q27
  clear q28
  clear q29
  go_wp2_with fail
  (go_at_call 47; (with_reducible refine (specSca_any x_aW _ _ _ _ _ (Own.row (Held.now h49)) (Nat.le_refl _)).mono ?_); rintro e W50 ⟨A53, c54, rfl, o52, b51⟩)
  have h59 := Held.ran h41 (ran_below b51 _) (Nat.le_trans (Nat.le_trans (Nat.le_trans (le9.out) le30.out) le45.out) t46.out) (.inr (Nat.le_refl _))
  have h60 := Held.ran h42 (ran_below b51 _) (Nat.le_trans (Nat.le_trans (le30.out) le45.out) t46.out) (.inr (Nat.le_refl _))
  have h61 := Held.ran h49 (ran_below b51 _) (Nat.le_refl _) (.inr (Nat.le_refl _))
  have bel62 : Below w.heap.size w W50 := Below.trans bel43 (Below.mono b51 (Nat.le_trans (Nat.le_trans (Nat.le_trans (le9.out) le30.out) le45.out) t46.out))
  have t63 : Hid (W32.heap.size ≤ W50.heap.size) := Lib.hid (Nat.le_trans t46.out (Below.size b51))
  clear h41 h42 h49 bel43
  have le64 : Hid (W32.heap.size ≤ W50.heap.size) := t63
  have t65 : Hid (W50.heap.size ≤ W50.heap.size) := Lib.hid (Nat.le_refl _)
  have fr66 := Own.from o52
  have lt67 := Own.lt o52
  have h68 := held_own o52 lt67
  clear o52 b51
  have bk73 := Held.now h60
  have q74 : W50.cell? ⟨w.heap.size, 0, none⟩ = some (.int .i64 x_aW.base) := Blk.cell bk73 0
  have q75 : W50.cell? ⟨w.heap.size, 1, none⟩ = some (.int .i64 x_aW.modulus) := Blk.cell bk73 1
  have q76 : W50.cell? ⟨w.heap.size, 2, none⟩ = some (.int .i64 x_aW.target) := Blk.cell bk73 2
  have q77 : W50.cell? ⟨w.heap.size, 3, none⟩ = some (.slice A_aW n_aW c_aW) := Blk.cell bk73 3
  clear bk73
  have lt78 : w.heap.size < W50.heap.size := Nat.lt_of_lt_of_le lt5.out (Nat.le_trans (Nat.le_trans (Nat.le_trans (le30.out) le45.out) le64.out) t65.out)
  have ne79 : w.heap.size ≠ W50.heap.size := Nat.ne_of_lt lt78
  obtain ⟨W69, hW70⟩ : ∃ W69, W69 = W50.alloc (.cells #[.int .i64 ((scaR x_aW i_aBy)).base, .int .i64 ((scaR x_aW i_aBy)).modulus, .int .i64 ((scaR x_aW i_aBy)).target, .slice A53 (scaR x_aW i_aBy).W.length c54] 44) := ⟨_, rfl⟩
  have be71 : Below W50.heap.size W50 W69 := by rw [hW70]; exact (Below.refl _ _).alloc (Nat.le_refl _) _
  have bk72 : Blk W69 W50.heap.size #[.int .i64 ((scaR x_aW i_aBy)).base, .int .i64 ((scaR x_aW i_aBy)).modulus, .int .i64 ((scaR x_aW i_aBy)).target, .slice A53 (scaR x_aW i_aBy).W.length c54] 44 := by rw [hW70]; exact Blk.new _ _ _
  have lt80 : Hid (W50.heap.size < W69.heap.size) := Lib.hid (Blk.lt bk72)
  have h81 := Held.ran h59 (ran_below be71 _) (Nat.le_trans (Nat.le_trans (Nat.le_trans (Nat.le_trans (le9.out) le30.out) le45.out) le64.out) t65.out) (.inr (Nat.le_refl _))
  have h82 := Held.ran h60 (ran_below be71 _) (Nat.le_trans (Nat.le_trans (Nat.le_trans (le30.out) le45.out) le64.out) t65.out) (.inr (Nat.le_refl _))
  have h83 := Held.ran h61 (ran_below be71 _) (Nat.le_trans (le64.out) t65.out) (.inr (Nat.le_refl _))
  have h84 := Held.ran h68 (ran_below be71 _) (Nat.le_refl _) (.inr (Nat.le_refl _))
  have bel85 : Below w.heap.size w W69 := Below.trans bel62 (Below.mono be71 (Nat.le_trans (Nat.le_trans (Nat.le_trans (Nat.le_trans (le9.out) le30.out) le45.out) le64.out) t65.out))
  have t86 : Hid (W50.heap.size ≤ W69.heap.size) := Lib.hid (Nat.le_trans t65.out (Below.size be71))
  clear h59 h60 h61 h68 bel62
  have le87 : Hid (W50.heap.size ≤ W69.heap.size) := t86
  have t88 : Hid (W69.heap.size ≤ W69.heap.size) := Lib.hid (Nat.le_refl _)
  have h89 := held_blk bk72 (Nat.le_refl _) lt80.out
  clear bk72 be71
  have bk90 := Held.now h82
  have q91 := Blk.cell bk90 0
  have q92 := Blk.cell bk90 1
  have q93 := Blk.cell bk90 2
  have q94 := Blk.cell bk90 3
  clear bk90
  go_wp2_with fail
  rw [show W50.alloc (.cells #[.int .i64 ((scaR x_aW i_aBy)).base, .int .i64 ((scaR x_aW i_aBy)).modulus, .int .i64 ((scaR x_aW i_aBy)).target, .slice A53 (scaR x_aW i_aBy).W.length c54] 44) = W69 from hW70.symm]
  clear hW70
  clear q74 q75 q76 q77 lt78 ne79
  (go_at_call 30; (with_reducible refine (toWeighting_any x_aW _ _ _ _ (RowB.up (Held.now h81) (Nat.le_trans (Nat.le_trans (Nat.le_trans (Nat.le_trans (Nat.le_trans (le9.out) le30.out) le45.out) le64.out) le87.out) t88.out)) (Nat.le_refl _) H20.out).mono ?_); rintro e W95 ⟨A98, c99, rfl, o97, b96⟩)
  have h104 := Held.ran h81 (ran_below b96 _) (Nat.le_trans (Nat.le_trans (Nat.le_trans (Nat.le_trans (Nat.le_trans (le9.out) le30.out) le45.out) le64.out) le87.out) t88.out) (.inr (Nat.le_refl _))
  have h105 := Held.ran h82 (ran_below b96 _) (Nat.le_trans (Nat.le_trans (Nat.le_trans (Nat.le_trans (le30.out) le45.out) le64.out) le87.out) t88.out) (.inr (Nat.le_refl _))
  have h106 := Held.ran h83 (ran_below b96 _) (Nat.le_trans (Nat.le_trans (le64.out) le87.out) t88.out) (.inr (Nat.le_refl _))
  have h107 := Held.ran h84 (ran_below b96 _) (Nat.le_trans (le87.out) t88.out) (.inr (Nat.le_refl _))
  have h108 := Held.ran h89 (ran_below b96 _) (Nat.le_refl _) (.inr (Nat.le_refl _))
  have bel109 : Below w.heap.size w W95 := Below.trans bel85 (Below.mono b96 (Nat.le_trans (Nat.le_trans (Nat.le_trans (Nat.le_trans (Nat.le_trans (le9.out) le30.out) le45.out) le64.out) le87.out) t88.out))
  have t110 : Hid (W69.heap.size ≤ W95.heap.size) := Lib.hid (Nat.le_trans t88.out (Below.size b96))
  clear h81 h82 h83 h84 h89 bel85
  have le111 : Hid (W69.heap.size ≤ W95.heap.size) := t110
  have t112 : Hid (W95.heap.size ≤ W95.heap.size) := Lib.hid (Nat.le_refl _)
  have fr113 := Own.from o97
  have lt114 := Own.lt o97
  have h115 := held_own o97 lt114
  clear o97 b96
  clear q91
  clear q92
  clear q93
  clear q94
  have bk120 := Held.now h105
  have q121 : W95.cell? ⟨w.heap.size, 0, none⟩ = some (.int .i64 x_aW.base) := Blk.cell bk120 0
  have q122 : W95.cell? ⟨w.heap.size, 1, none⟩ = some (.int .i64 x_aW.modulus) := Blk.cell bk120 1
  have q123 : W95.cell? ⟨w.heap.size, 2, none⟩ = some (.int .i64 x_aW.target) := Blk.cell bk120 2
  have q124 : W95.cell? ⟨w.heap.size, 3, none⟩ = some (.slice A_aW n_aW c_aW) := Blk.cell bk120 3
  clear bk120
  have lt125 : w.heap.size < W95.heap.size := Nat.lt_of_lt_of_le lt5.out (Nat.le_trans (Nat.le_trans (Nat.le_trans (Nat.le_trans (Nat.le_trans (le30.out) le45.out) le64.out) le87.out) le111.out) t112.out)
  have ne126 : w.heap.size ≠ W95.heap.size := Nat.ne_of_lt lt125
  have bk127 := Held.now h108
  have q128 : W95.cell? ⟨W50.heap.size, 0, none⟩ = some (.int .i64 ((scaR x_aW i_aBy)).base) := Blk.cell bk127 0
  have q129 : W95.cell? ⟨W50.heap.size, 1, none⟩ = some (.int .i64 ((scaR x_aW i_aBy)).modulus) := Blk.cell bk127 1
  have q130 : W95.cell? ⟨W50.heap.size, 2, none⟩ = some (.int .i64 ((scaR x_aW i_aBy)).target) := Blk.cell bk127 2
  have q131 : W95.cell? ⟨W50.heap.size, 3, none⟩ = some (.slice A53 (scaR x_aW i_aBy).W.length c54) := Blk.cell bk127 3
  clear bk127
  have lt132 : W50.heap.size < W95.heap.size := Nat.lt_of_lt_of_le lt80.out (Nat.le_trans (le111.out) t112.out)
  have ne133 : W50.heap.size ≠ W95.heap.size := Nat.ne_of_lt lt132
  obtain ⟨W116, hW117⟩ : ∃ W116, W116 = W95.alloc (.cells #[.int .i64 x_aW.base, .int .i64 x_aW.modulus, .int .i64 x_aW.target, .slice A98 x_aW.W.length c99] 44) := ⟨_, rfl⟩
  have be118 : Below W95.heap.size W95 W116 := by rw [hW117]; exact (Below.refl _ _).alloc (Nat.le_refl _) _
  have bk119 : Blk W116 W95.heap.size #[.int .i64 x_aW.base, .int .i64 x_aW.modulus, .int .i64 x_aW.target, .slice A98 x_aW.W.length c99] 44 := by rw [hW117]; exact Blk.new _ _ _
  have lt134 : Hid (W95.heap.size < W116.heap.size) := Lib.hid (Blk.lt bk119)
  have h135 := Held.ran h104 (ran_below be118 _) (Nat.le_trans (Nat.le_trans (Nat.le_trans (Nat.le_trans (Nat.le_trans (Nat.le_trans (le9.out) le30.out) le45.out) le64.out) le87.out) le111.out) t112.out) (.inr (Nat.le_refl _))
  have h136 := Held.ran h105 (ran_below be118 _) (Nat.le_trans (Nat.le_trans (Nat.le_trans (Nat.le_trans (Nat.le_trans (le30.out) le45.out) le64.out) le87.out) le111.out) t112.out) (.inr (Nat.le_refl _))
  have h137 := Held.ran h106 (ran_below be118 _) (Nat.le_trans (Nat.le_trans (Nat.le_trans (le64.out) le87.out) le111.out) t112.out) (.inr (Nat.le_refl _))
  have h138 := Held.ran h107 (ran_below be118 _) (Nat.le_trans (Nat.le_trans (le87.out) le111.out) t112.out) (.inr (Nat.le_refl _))
  have h139 := Held.ran h108 (ran_below be118 _) (Nat.le_trans (le111.out) t112.out) (.inr (Nat.le_refl _))
  have h140 := Held.ran h115 (ran_below be118 _) (Nat.le_refl _) (.inr (Nat.le_refl _))
  have bel141 : Below w.heap.size w W116 := Below.trans bel109 (Below.mono be118 (Nat.le_trans (Nat.le_trans (Nat.le_trans (Nat.le_trans (Nat.le_trans (Nat.le_trans (le9.out) le30.out) le45.out) le64.out) le87.out) le111.out) t112.out))
  have t142 : Hid (W95.heap.size ≤ W116.heap.size) := Lib.hid (Nat.le_trans t112.out (Below.size be118))
  clear h104 h105 h106 h107 h108 h115 bel109
  have le143 : Hid (W95.heap.size ≤ W116.heap.size) := t142
  have t144 : Hid (W116.heap.size ≤ W116.heap.size) := Lib.hid (Nat.le_refl _)
  have h145 := held_blk bk119 (Nat.le_refl _) lt134.out
  clear bk119 be118
  go_wp2_with fail
  rw [show W95.alloc (.cells #[.int .i64 x_aW.base, .int .i64 x_aW.modulus, .int .i64 x_aW.target, .slice A98 x_aW.W.length c99] 44) = W116 from hW117.symm]
  clear hW117
  clear q121 q122 q123 q124 lt125 ne126 q128 q129 q130 q131 lt132 ne133
  (go_at_call 48; (with_reducible refine (implSca_any x_aW _ _ _ _ _ (Own.row (Held.now h140)) (Nat.le_refl _)).mono ?_); rintro e W146 ⟨A149, c150, rfl, o148, b147⟩)
  have h155 := Held.ran h135 (ran_below b147 _) (Nat.le_trans (Nat.le_trans (Nat.le_trans (Nat.le_trans (Nat.le_trans (Nat.le_trans (Nat.le_trans (le9.out) le30.out) le45.out) le64.out) le87.out) le111.out) le143.out) t144.out) (.inr (Nat.le_refl _))
  have h156 := Held.ran h136 (ran_below b147 _) (Nat.le_trans (Nat.le_trans (Nat.le_trans (Nat.le_trans (Nat.le_trans (Nat.le_trans (le30.out) le45.out) le64.out) le87.out) le111.out) le143.out) t144.out) (.inr (Nat.le_refl _))
  have h157 := Held.ran h137 (ran_below b147 _) (Nat.le_trans (Nat.le_trans (Nat.le_trans (Nat.le_trans (le64.out) le87.out) le111.out) le143.out) t144.out) (.inr (Nat.le_refl _))
  have h158 := Held.ran h138 (ran_below b147 _) (Nat.le_trans (Nat.le_trans (Nat.le_trans (le87.out) le111.out) le143.out) t144.out) (.inr (Nat.le_refl _))
  have h159 := Held.ran h139 (ran_below b147 _) (Nat.le_trans (Nat.le_trans (le111.out) le143.out) t144.out) (.inr (Nat.le_refl _))
  have h160 := Held.ran h140 (ran_below b147 _) (Nat.le_trans (le143.out) t144.out) (.inr (Nat.le_refl _))
  have h161 := Held.ran h145 (ran_below b147 _) (Nat.le_refl _) (.inr (Nat.le_refl _))
  have bel162 : Below w.heap.size w W146 := Below.trans bel141 (Below.mono b147 (Nat.le_trans (Nat.le_trans (Nat.le_trans (Nat.le_trans (Nat.le_trans (Nat.le_trans (Nat.le_trans (le9.out) le30.out) le45.out) le64.out) le87.out) le111.out) le143.out) t144.out))
  have t163 : Hid (W116.heap.size ≤ W146.heap.size) := Lib.hid (Nat.le_trans t144.out (Below.size b147))
  clear h135 h136 h137 h138 h139 h140 h145 bel141
  have le164 : Hid (W116.heap.size ≤ W146.heap.size) := t163
  have t165 : Hid (W146.heap.size ≤ W146.heap.size) := Lib.hid (Nat.le_refl _)
  have fr166 := Own.from o148
  have lt167 := Own.lt o148
  have h168 := held_own o148 lt167
  clear o148 b147
  have bk173 := Held.now h156
  have q174 : W146.cell? ⟨w.heap.size, 0, none⟩ = some (.int .i64 x_aW.base) := Blk.cell bk173 0
  have q175 : W146.cell? ⟨w.heap.size, 1, none⟩ = some (.int .i64 x_aW.modulus) := Blk.cell bk173 1
  have q176 : W146.cell? ⟨w.heap.size, 2, none⟩ = some (.int .i64 x_aW.target) := Blk.cell bk173 2
  have q177 : W146.cell? ⟨w.heap.size, 3, none⟩ = some (.slice A_aW n_aW c_aW) := Blk.cell bk173 3
  clear bk173
  have lt178 : w.heap.size < W146.heap.size := Nat.lt_of_lt_of_le lt5.out (Nat.le_trans (Nat.le_trans (Nat.le_trans (Nat.le_trans (Nat.le_trans (Nat.le_trans (Nat.le_trans (le30.out) le45.out) le64.out) le87.out) le111.out) le143.out) le164.out) t165.out)
  have ne179 : w.heap.size ≠ W146.heap.size := Nat.ne_of_lt lt178
  have bk180 := Held.now h159
  have q181 : W146.cell? ⟨W50.heap.size, 0, none⟩ = some (.int .i64 ((scaR x_aW i_aBy)).base) := Blk.cell bk180 0
  have q182 : W146.cell? ⟨W50.heap.size, 1, none⟩ = some (.int .i64 ((scaR x_aW i_aBy)).modulus) := Blk.cell bk180 1
  have q183 : W146.cell? ⟨W50.heap.size, 2, none⟩ = some (.int .i64 ((scaR x_aW i_aBy)).target) := Blk.cell bk180 2
  have q184 : W146.cell? ⟨W50.heap.size, 3, none⟩ = some (.slice A53 (scaR x_aW i_aBy).W.length c54) := Blk.cell bk180 3
  clear bk180
  have lt185 : W50.heap.size < W146.heap.size := Nat.lt_of_lt_of_le lt80.out (Nat.le_trans (Nat.le_trans (Nat.le_trans (le111.out) le143.out) le164.out) t165.out)
  have ne186 : W50.heap.size ≠ W146.heap.size := Nat.ne_of_lt lt185
  have bk187 := Held.now h161
  have q188 : W146.cell? ⟨W95.heap.size, 0, none⟩ = some (.int .i64 x_aW.base) := Blk.cell bk187 0
  have q189 : W146.cell? ⟨W95.heap.size, 1, none⟩ = some (.int .i64 x_aW.modulus) := Blk.cell bk187 1
  have q190 : W146.cell? ⟨W95.heap.size, 2, none⟩ = some (.int .i64 x_aW.target) := Blk.cell bk187 2
  have q191 : W146.cell? ⟨W95.heap.size, 3, none⟩ = some (.slice A98 x_aW.W.length c99) := Blk.cell bk187 3
  clear bk187
  have lt192 : W95.heap.size < W146.heap.size := Nat.lt_of_lt_of_le lt134.out (Nat.le_trans (le164.out) t165.out)
  have ne193 : W95.heap.size ≠ W146.heap.size := Nat.ne_of_lt lt192
  obtain ⟨W169, hW170⟩ : ∃ W169, W169 = W146.alloc (.cells #[.int .i64 ((scaR x_aW i_aBy)).base, .int .i64 ((scaR x_aW i_aBy)).modulus, .int .i64 ((scaR x_aW i_aBy)).target, .slice A149 (scaR x_aW i_aBy).W.length c150] 44) := ⟨_, rfl⟩
  have be171 : Below W146.heap.size W146 W169 := by rw [hW170]; exact (Below.refl _ _).alloc (Nat.le_refl _) _
  have bk172 : Blk W169 W146.heap.size #[.int .i64 ((scaR x_aW i_aBy)).base, .int .i64 ((scaR x_aW i_aBy)).modulus, .int .i64 ((scaR x_aW i_aBy)).target, .slice A149 (scaR x_aW i_aBy).W.length c150] 44 := by rw [hW170]; exact Blk.new _ _ _
  have lt194 : Hid (W146.heap.size < W169.heap.size) := Lib.hid (Blk.lt bk172)
  have h195 := Held.ran h155 (ran_below be171 _) (Nat.le_trans (Nat.le_trans (Nat.le_trans (Nat.le_trans (Nat.le_trans (Nat.le_trans (Nat.le_trans (Nat.le_trans (le9.out) le30.out) le45.out) le64.out) le87.out) le111.out) le143.out) le164.out) t165.out) (.inr (Nat.le_refl _))
  have h196 := Held.ran h156 (ran_below be171 _) (Nat.le_trans (Nat.le_trans (Nat.le_trans (Nat.le_trans (Nat.le_trans (Nat.le_trans (Nat.le_trans (le30.out) le45.out) le64.out) le87.out) le111.out) le143.out) le164.out) t165.out) (.inr (Nat.le_refl _))
  have h197 := Held.ran h157 (ran_below be171 _) (Nat.le_trans (Nat.le_trans (Nat.le_trans (Nat.le_trans (Nat.le_trans (le64.out) le87.out) le111.out) le143.out) le164.out) t165.out) (.inr (Nat.le_refl _))
  have h198 := Held.ran h158 (ran_below be171 _) (Nat.le_trans (Nat.le_trans (Nat.le_trans (Nat.le_trans (le87.out) le111.out) le143.out) le164.out) t165.out) (.inr (Nat.le_refl _))
  have h199 := Held.ran h159 (ran_below be171 _) (Nat.le_trans (Nat.le_trans (Nat.le_trans (le111.out) le143.out) le164.out) t165.out) (.inr (Nat.le_refl _))
  have h200 := Held.ran h160 (ran_below be171 _) (Nat.le_trans (Nat.le_trans (le143.out) le164.out) t165.out) (.inr (Nat.le_refl _))
  have h201 := Held.ran h161 (ran_below be171 _) (Nat.le_trans (le164.out) t165.out) (.inr (Nat.le_refl _))
  have h202 := Held.ran h168 (ran_below be171 _) (Nat.le_refl _) (.inr (Nat.le_refl _))
  have bel203 : Below w.heap.size w W169 := Below.trans bel162 (Below.mono be171 (Nat.le_trans (Nat.le_trans (Nat.le_trans (Nat.le_trans (Nat.le_trans (Nat.le_trans (Nat.le_trans (Nat.le_trans (le9.out) le30.out) le45.out) le64.out) le87.out) le111.out) le143.out) le164.out) t165.out))
  have t204 : Hid (W146.heap.size ≤ W169.heap.size) := Lib.hid (Nat.le_trans t165.out (Below.size be171))
  clear h155 h156 h157 h158 h159 h160 h161 h168 bel162
  have le205 : Hid (W146.heap.size ≤ W169.heap.size) := t204
  have t206 : Hid (W169.heap.size ≤ W169.heap.size) := Lib.hid (Nat.le_refl _)
  have h207 := held_blk bk172 (Nat.le_refl _) lt194.out
  clear bk172 be171
  have bk208 := Held.now h199
  have q209 := Blk.cell bk208 0
  have q210 := Blk.cell bk208 1
  have q211 := Blk.cell bk208 2
  have q212 := Blk.cell bk208 3
  clear bk208
  go_wp2_with fail
  rw [show W146.alloc (.cells #[.int .i64 ((scaR x_aW i_aBy)).base, .int .i64 ((scaR x_aW i_aBy)).modulus, .int .i64 ((scaR x_aW i_aBy)).target, .slice A149 (scaR x_aW i_aBy).W.length c150] 44) = W169 from hW170.symm]
  clear hW170
  clear q174 q175 q176 q177 lt178 ne179 q181 q182 q183 q184 lt185 ne186 q188 q189 q190 q191 lt192 ne193
  (go_at_call 32; (with_reducible refine (eqWeighting_any (scaR x_aW i_aBy) _ _ _ _ _ _ (Own.row (Held.now h202)) (Own.row (Held.now h198)) (Nat.le_refl _) (Nat.le_refl _)).mono ?_); rintro e W214 ⟨rfl, b213⟩)
  have h215 := Held.ran h195 (ran_below b213 _) (Nat.le_trans (Nat.le_trans (Nat.le_trans (Nat.le_trans (Nat.le_trans (Nat.le_trans (Nat.le_trans (Nat.le_trans (Nat.le_trans (le9.out) le30.out) le45.out) le64.out) le87.out) le111.out) le143.out) le164.out) le205.out) t206.out) (.inr (Nat.le_refl _))
  have h216 := Held.ran h196 (ran_below b213 _) (Nat.le_trans (Nat.le_trans (Nat.le_trans (Nat.le_trans (Nat.le_trans (Nat.le_trans (Nat.le_trans (Nat.le_trans (le30.out) le45.out) le64.out) le87.out) le111.out) le143.out) le164.out) le205.out) t206.out) (.inr (Nat.le_refl _))
  have h217 := Held.ran h197 (ran_below b213 _) (Nat.le_trans (Nat.le_trans (Nat.le_trans (Nat.le_trans (Nat.le_trans (Nat.le_trans (le64.out) le87.out) le111.out) le143.out) le164.out) le205.out) t206.out) (.inr (Nat.le_refl _))
  have h218 := Held.ran h198 (ran_below b213 _) (Nat.le_trans (Nat.le_trans (Nat.le_trans (Nat.le_trans (Nat.le_trans (le87.out) le111.out) le143.out) le164.out) le205.out) t206.out) (.inr (Nat.le_refl _))
  have h219 := Held.ran h199 (ran_below b213 _) (Nat.le_trans (Nat.le_trans (Nat.le_trans (Nat.le_trans (le111.out) le143.out) le164.out) le205.out) t206.out) (.inr (Nat.le_refl _))
  have h220 := Held.ran h200 (ran_below b213 _) (Nat.le_trans (Nat.le_trans (Nat.le_trans (le143.out) le164.out) le205.out) t206.out) (.inr (Nat.le_refl _))
  have h221 := Held.ran h201 (ran_below b213 _) (Nat.le_trans (Nat.le_trans (le164.out) le205.out) t206.out) (.inr (Nat.le_refl _))
  have h222 := Held.ran h202 (ran_below b213 _) (Nat.le_trans (le205.out) t206.out) (.inr (Nat.le_refl _))
  have h223 := Held.ran h207 (ran_below b213 _) (Nat.le_refl _) (.inr (Nat.le_refl _))
  have bel224 : Below w.heap.size w W214 := Below.trans bel203 (Below.mono b213 (Nat.le_trans (Nat.le_trans (Nat.le_trans (Nat.le_trans (Nat.le_trans (Nat.le_trans (Nat.le_trans (Nat.le_trans (Nat.le_trans (le9.out) le30.out) le45.out) le64.out) le87.out) le111.out) le143.out) le164.out) le205.out) t206.out))
  have t225 : Hid (W169.heap.size ≤ W214.heap.size) := Lib.hid (Nat.le_trans t206.out (Below.size b213))
  clear h195 h196 h197 h198 h199 h200 h201 h202 h207 bel203
  clear b213
  clear q209
  clear q210
  clear q211
  clear q212
  have bk226 := Held.now h221
  have q227 : W214.cell? ⟨W95.heap.size, 0, none⟩ = some (.int .i64 x_aW.base) := Blk.cell bk226 0
  have q228 : W214.cell? ⟨W95.heap.size, 1, none⟩ = some (.int .i64 x_aW.modulus) := Blk.cell bk226 1
  have q229 : W214.cell? ⟨W95.heap.size, 2, none⟩ = some (.int .i64 x_aW.target) := Blk.cell bk226 2
  have q230 : W214.cell? ⟨W95.heap.size, 3, none⟩ = some (.slice A98 x_aW.W.length c99) := Blk.cell bk226 3
  clear bk226
  have bk231 := Held.now h216
  have q232 : W214.cell? ⟨w.heap.size, 0, none⟩ = some (.int .i64 x_aW.base) := Blk.cell bk231 0
  have q233 : W214.cell? ⟨w.heap.size, 1, none⟩ = some (.int .i64 x_aW.modulus) := Blk.cell bk231 1
  have q234 : W214.cell? ⟨w.heap.size, 2, none⟩ = some (.int .i64 x_aW.target) := Blk.cell bk231 2
  have q235 : W214.cell? ⟨w.heap.size, 3, none⟩ = some (.slice A_aW n_aW c_aW) := Blk.cell bk231 3
  clear bk231
  go_wp2_with fail
  have h236 := Held.ran h215 (ran_drew W214 _) (Nat.le_trans (Nat.le_trans (Nat.le_trans (Nat.le_trans (Nat.le_trans (Nat.le_trans (Nat.le_trans (Nat.le_trans (Nat.le_trans (le9.out) le30.out) le45.out) le64.out) le87.out) le111.out) le143.out) le164.out) le205.out) t225.out) (.inr (Nat.le_refl _))
  have h237 := Held.ran h216 (ran_drew W214 _) (Nat.le_trans (Nat.le_trans (Nat.le_trans (Nat.le_trans (Nat.le_trans (Nat.le_trans (Nat.le_trans (Nat.le_trans (le30.out) le45.out) le64.out) le87.out) le111.out) le143.out) le164.out) le205.out) t225.out) (.inr (Nat.le_refl _))
  have h238 := Held.ran h217 (ran_drew W214 _) (Nat.le_trans (Nat.le_trans (Nat.le_trans (Nat.le_trans (Nat.le_trans (Nat.le_trans (le64.out) le87.out) le111.out) le143.out) le164.out) le205.out) t225.out) (.inr (Nat.le_refl _))
  have h239 := Held.ran h218 (ran_drew W214 _) (Nat.le_trans (Nat.le_trans (Nat.le_trans (Nat.le_trans (Nat.le_trans (le87.out) le111.out) le143.out) le164.out) le205.out) t225.out) (.inr (Nat.le_refl _))
  have h240 := Held.ran h219 (ran_drew W214 _) (Nat.le_trans (Nat.le_trans (Nat.le_trans (Nat.le_trans (le111.out) le143.out) le164.out) le205.out) t225.out) (.inr (Nat.le_refl _))
  have h241 := Held.ran h220 (ran_drew W214 _) (Nat.le_trans (Nat.le_trans (Nat.le_trans (le143.out) le164.out) le205.out) t225.out) (.inr (Nat.le_refl _))
  have h242 := Held.ran h221 (ran_drew W214 _) (Nat.le_trans (Nat.le_trans (le164.out) le205.out) t225.out) (.inr (Nat.le_refl _))
  have h243 := Held.ran h222 (ran_drew W214 _) (Nat.le_trans (le205.out) t225.out) (.inr (Nat.le_refl _))
  have h244 := Held.ran h223 (ran_drew W214 _) (Nat.le_trans (Nat.le_refl _) t225.out) (.inr (Nat.le_refl _))
  have bel245 : Below w.heap.size w (World.drew W214) := below_drew bel224
  have t246 : Hid (W169.heap.size ≤ ((World.drew W214)).heap.size) := t225
  clear h215 h216 h217 h218 h219 h220 h221 h222 h223 bel224
  have le248 : Hid (W169.heap.size ≤ (World.drew W214).heap.size) := t246
  have t249 : Hid ((World.drew W214).heap.size ≤ (World.drew W214).heap.size) := Lib.hid (Nat.le_refl _)
  refine region_held_n 5 (fun w' => w'.cell? ⟨W95.heap.size, 0, none⟩ = some (.int .i64 x_aW.base) ∧ w'.cell? ⟨W95.heap.size, 1, none⟩ = some (.int .i64 x_aW.modulus) ∧ w'.cell? ⟨W95.heap.size, 2, none⟩ = some (.int .i64 x_aW.target) ∧ w'.cell? ⟨W95.heap.size, 3, none⟩ = some (.slice A98 x_aW.W.length c99) ∧ w'.cell? ⟨w.heap.size, 0, none⟩ = some (.int .i64 x_aW.base) ∧ w'.cell? ⟨w.heap.size, 1, none⟩ = some (.int .i64 x_aW.modulus) ∧ w'.cell? ⟨w.heap.size, 2, none⟩ = some (.int .i64 x_aW.target) ∧ w'.cell? ⟨w.heap.size, 3, none⟩ = some (.slice A_aW n_aW c_aW)) (by kernel_rfl) (by kernel_rfl) ⟨q227, q228, q229, q230, q232, q233, q234, q235⟩ (fun hS => ?_)
  refine takeD 0 (some 45) (v := ?_) rfl (by kernel_rfl) (by kernel_rfl) (by kernel_rfl) (fun _ _ _ h => h) hS (fun o ho => Or.inl ⟨by cases ho; rfl, ?_⟩) ?_
  rotate_left
  · cases ho
    intro w' hw'
    (try dsimp only at hw')
    go_simp
    (try with_reducible rfl)
  (try simp only [Act.put, List.setIfInBounds_toArray, List.set_cons_zero, List.set_cons_succ])
  refine takeD 1 (some 46) (v := ?_) rfl (by kernel_rfl) (by kernel_rfl) (by kernel_rfl) (fun _ _ _ h => h) hS (fun o ho => Or.inl ⟨by cases ho; rfl, ?_⟩) ?_
  rotate_left
  · cases ho
    intro w' hw'
    (try dsimp only at hw')
    go_simp
    (try with_reducible rfl)
  (try simp only [Act.put, List.setIfInBounds_toArray, List.set_cons_zero, List.set_cons_succ])
  refine oneD 2 (some 47) (by kernel_rfl) rfl (fun o ho K hK hdo => ?_)
  simp only [List.getElem?_toArray, List.getElem?_cons_succ, List.getElem?_cons_zero, Option.some.injEq] at ho
  subst ho
  clear hdo
  rw [if_pos (by rfl)]
  go_wp2_with ((go_at_call 30; (with_reducible refine (toWeighting_any x_aW _ _ _ _ (RowB.up (Held.now h236) (Nat.le_trans (Nat.le_trans (Nat.le_trans (Nat.le_trans (Nat.le_trans (Nat.le_trans (Nat.le_trans (Nat.le_trans (Nat.le_trans (le9.out) le30.out) le45.out) le64.out) le87.out) le111.out) le143.out) le164.out) le205.out) t246.out)) (Nat.le_refl _) H20.out).mono ?_); rintro e W250 ⟨A253, c254, rfl, o252, b251⟩))
  have h259 := Held.ran h236 (ran_below b251 _) (Nat.le_trans (Nat.le_trans (Nat.le_trans (Nat.le_trans (Nat.le_trans (Nat.le_trans (Nat.le_trans (Nat.le_trans (Nat.le_trans (Nat.le_trans (le9.out) le30.out) le45.out) le64.out) le87.out) le111.out) le143.out) le164.out) le205.out) le248.out) t249.out) (.inr (Nat.le_refl _))
  have h260 := Held.ran h237 (ran_below b251 _) (Nat.le_trans (Nat.le_trans (Nat.le_trans (Nat.le_trans (Nat.le_trans (Nat.le_trans (Nat.le_trans (Nat.le_trans (Nat.le_trans (le30.out) le45.out) le64.out) le87.out) le111.out) le143.out) le164.out) le205.out) le248.out) t249.out) (.inr (Nat.le_refl _))
  have h261 := Held.ran h238 (ran_below b251 _) (Nat.le_trans (Nat.le_trans (Nat.le_trans (Nat.le_trans (Nat.le_trans (Nat.le_trans (Nat.le_trans (le64.out) le87.out) le111.out) le143.out) le164.out) le205.out) le248.out) t249.out) (.inr (Nat.le_refl _))
  have h262 := Held.ran h239 (ran_below b251 _) (Nat.le_trans (Nat.le_trans (Nat.le_trans (Nat.le_trans (Nat.le_trans (Nat.le_trans (le87.out) le111.out) le143.out) le164.out) le205.out) le248.out) t249.out) (.inr (Nat.le_refl _))
  have h263 := Held.ran h240 (ran_below b251 _) (Nat.le_trans (Nat.le_trans (Nat.le_trans (Nat.le_trans (Nat.le_trans (le111.out) le143.out) le164.out) le205.out) le248.out) t249.out) (.inr (Nat.le_refl _))
  have h264 := Held.ran h241 (ran_below b251 _) (Nat.le_trans (Nat.le_trans (Nat.le_trans (Nat.le_trans (le143.out) le164.out) le205.out) le248.out) t249.out) (.inr (Nat.le_refl _))
  have h265 := Held.ran h242 (ran_below b251 _) (Nat.le_trans (Nat.le_trans (Nat.le_trans (le164.out) le205.out) le248.out) t249.out) (.inr (Nat.le_refl _))
  have h266 := Held.ran h243 (ran_below b251 _) (Nat.le_trans (Nat.le_trans (le205.out) le248.out) t249.out) (.inr (Nat.le_refl _))
  have h267 := Held.ran h244 (ran_below b251 _) (Nat.le_trans (le248.out) t249.out) (.inr (Nat.le_refl _))
  have bel268 : Below w.heap.size w W250 := Below.trans bel245 (Below.mono b251 (Nat.le_trans (Nat.le_trans (Nat.le_trans (Nat.le_trans (Nat.le_trans (Nat.le_trans (Nat.le_trans (Nat.le_trans (Nat.le_trans (Nat.le_trans (le9.out) le30.out) le45.out) le64.out) le87.out) le111.out) le143.out) le164.out) le205.out) le248.out) t249.out))
  have t269 : Hid ((World.drew W214).heap.size ≤ W250.heap.size) := Lib.hid (Nat.le_trans t249.out (Below.size b251))
  clear h236 h237 h238 h239 h240 h241 h242 h243 h244 bel245
  have le270 : Hid ((World.drew W214).heap.size ≤ W250.heap.size) := t269
  have t271 : Hid (W250.heap.size ≤ W250.heap.size) := Lib.hid (Nat.le_refl _)
  have fr272 := Own.from o252
  have lt273 := Own.lt o252
  have h274 := held_own o252 lt273
  clear o252 b251
  have bk275 := Held.now h265
  have q276 : W250.cell? ⟨W95.heap.size, 0, none⟩ = some (.int .i64 x_aW.base) := Blk.cell bk275 0
  have q277 : W250.cell? ⟨W95.heap.size, 1, none⟩ = some (.int .i64 x_aW.modulus) := Blk.cell bk275 1
  have q278 : W250.cell? ⟨W95.heap.size, 2, none⟩ = some (.int .i64 x_aW.target) := Blk.cell bk275 2
  have q279 : W250.cell? ⟨W95.heap.size, 3, none⟩ = some (.slice A98 x_aW.W.length c99) := Blk.cell bk275 3
  clear bk275
  have bk280 := Held.now h260
  have q281 : W250.cell? ⟨w.heap.size, 0, none⟩ = some (.int .i64 x_aW.base) := Blk.cell bk280 0
  have q282 : W250.cell? ⟨w.heap.size, 1, none⟩ = some (.int .i64 x_aW.modulus) := Blk.cell bk280 1
  have q283 : W250.cell? ⟨w.heap.size, 2, none⟩ = some (.int .i64 x_aW.target) := Blk.cell bk280 2
  have q284 : W250.cell? ⟨w.heap.size, 3, none⟩ = some (.slice A_aW n_aW c_aW) := Blk.cell bk280 3
  clear bk280
  refine hK.out _ _ ?_ (fun hS => ?_)
  · exact ⟨q276, q277, q278, q279, q281, q282, q283, q284⟩
  clear hK K
  (try simp only [Act.put, List.setIfInBounds_toArray, List.set_cons_zero, List.set_cons_succ])
  refine oneD 3 (some 48) (by kernel_rfl) rfl (fun o ho K hK hdo => ?_)
  simp only [List.getElem?_toArray, List.getElem?_cons_succ, List.getElem?_cons_zero, Option.some.injEq] at ho
  subst ho
  clear hdo
  rw [if_pos (by rfl)]
  go_wp2_with ((go_at_call 32; (with_reducible refine (eqWeighting_any x_aW _ _ _ _ _ _ (Own.row (Held.now h264)) (Own.row (Held.now h274)) (Nat.le_refl _) (Nat.le_refl _)).mono ?_); rintro e W286 ⟨rfl, b285⟩))
  have h287 := Held.ran h259 (ran_below b285 _) (Nat.le_trans (Nat.le_trans (Nat.le_trans (Nat.le_trans (Nat.le_trans (Nat.le_trans (Nat.le_trans (Nat.le_trans (Nat.le_trans (Nat.le_trans (Nat.le_trans (le9.out) le30.out) le45.out) le64.out) le87.out) le111.out) le143.out) le164.out) le205.out) le248.out) le270.out) t271.out) (.inr (Nat.le_refl _))
  have h288 := Held.ran h260 (ran_below b285 _) (Nat.le_trans (Nat.le_trans (Nat.le_trans (Nat.le_trans (Nat.le_trans (Nat.le_trans (Nat.le_trans (Nat.le_trans (Nat.le_trans (Nat.le_trans (le30.out) le45.out) le64.out) le87.out) le111.out) le143.out) le164.out) le205.out) le248.out) le270.out) t271.out) (.inr (Nat.le_refl _))
  have h289 := Held.ran h261 (ran_below b285 _) (Nat.le_trans (Nat.le_trans (Nat.le_trans (Nat.le_trans (Nat.le_trans (Nat.le_trans (Nat.le_trans (Nat.le_trans (le64.out) le87.out) le111.out) le143.out) le164.out) le205.out) le248.out) le270.out) t271.out) (.inr (Nat.le_refl _))
  have h290 := Held.ran h262 (ran_below b285 _) (Nat.le_trans (Nat.le_trans (Nat.le_trans (Nat.le_trans (Nat.le_trans (Nat.le_trans (Nat.le_trans (le87.out) le111.out) le143.out) le164.out) le205.out) le248.out) le270.out) t271.out) (.inr (Nat.le_refl _))
  have h291 := Held.ran h263 (ran_below b285 _) (Nat.le_trans (Nat.le_trans (Nat.le_trans (Nat.le_trans (Nat.le_trans (Nat.le_trans (le111.out) le143.out) le164.out) le205.out) le248.out) le270.out) t271.out) (.inr (Nat.le_refl _))
  have h292 := Held.ran h264 (ran_below b285 _) (Nat.le_trans (Nat.le_trans (Nat.le_trans (Nat.le_trans (Nat.le_trans (le143.out) le164.out) le205.out) le248.out) le270.out) t271.out) (.inr (Nat.le_refl _))
  have h293 := Held.ran h265 (ran_below b285 _) (Nat.le_trans (Nat.le_trans (Nat.le_trans (Nat.le_trans (le164.out) le205.out) le248.out) le270.out) t271.out) (.inr (Nat.le_refl _))
  have h294 := Held.ran h266 (ran_below b285 _) (Nat.le_trans (Nat.le_trans (Nat.le_trans (le205.out) le248.out) le270.out) t271.out) (.inr (Nat.le_refl _))
  have h295 := Held.ran h267 (ran_below b285 _) (Nat.le_trans (Nat.le_trans (le248.out) le270.out) t271.out) (.inr (Nat.le_refl _))
  have h296 := Held.ran h274 (ran_below b285 _) (Nat.le_refl _) (.inr (Nat.le_refl _))
  have bel297 : Below w.heap.size w W286 := Below.trans bel268 (Below.mono b285 (Nat.le_trans (Nat.le_trans (Nat.le_trans (Nat.le_trans (Nat.le_trans (Nat.le_trans (Nat.le_trans (Nat.le_trans (Nat.le_trans (Nat.le_trans (Nat.le_trans (le9.out) le30.out) le45.out) le64.out) le87.out) le111.out) le143.out) le164.out) le205.out) le248.out) le270.out) t271.out))
  have t298 : Hid (W250.heap.size ≤ W286.heap.size) := Lib.hid (Nat.le_trans t271.out (Below.size b285))
  clear h259 h260 h261 h262 h263 h264 h265 h266 h267 h274 bel268
  have bk299 := Held.now h293
  have q300 : W286.cell? ⟨W95.heap.size, 0, none⟩ = some (.int .i64 x_aW.base) := Blk.cell bk299 0
  have q301 : W286.cell? ⟨W95.heap.size, 1, none⟩ = some (.int .i64 x_aW.modulus) := Blk.cell bk299 1
  have q302 : W286.cell? ⟨W95.heap.size, 2, none⟩ = some (.int .i64 x_aW.target) := Blk.cell bk299 2
  have q303 : W286.cell? ⟨W95.heap.size, 3, none⟩ = some (.slice A98 x_aW.W.length c99) := Blk.cell bk299 3
  clear bk299
  have bk304 := Held.now h288
  have q305 : W286.cell? ⟨w.heap.size, 0, none⟩ = some (.int .i64 x_aW.base) := Blk.cell bk304 0
  have q306 : W286.cell? ⟨w.heap.size, 1, none⟩ = some (.int .i64 x_aW.modulus) := Blk.cell bk304 1
  have q307 : W286.cell? ⟨w.heap.size, 2, none⟩ = some (.int .i64 x_aW.target) := Blk.cell bk304 2
  have q308 : W286.cell? ⟨w.heap.size, 3, none⟩ = some (.slice A_aW n_aW c_aW) := Blk.cell bk304 3
  clear bk304
  clear b285
  refine hK.out _ _ ?_ (fun hS => ?_)
  · exact ⟨q300, q301, q302, q303, q305, q306, q307, q308⟩
  clear hK K
  (try simp only [Act.put, List.setIfInBounds_toArray, List.set_cons_zero, List.set_cons_succ])
  refine takeD 4 (some 49) (v := ?_) rfl (by kernel_rfl) (by kernel_rfl) (by kernel_rfl) (fun _ _ _ h => h) hS (fun o ho => Or.inl ⟨by cases ho; rfl, ?_⟩) ?_
  rotate_left
  · cases ho
    intro w' hw'
    (try dsimp only at hw')
    go_simp
    (try with_reducible rfl)
  (try simp only [Act.put, List.setIfInBounds_toArray, List.set_cons_zero, List.set_cons_succ])
  refine wpAnyH_done (by kernel_rfl) ?_ _
  clear hS
  clear q227 q228 q229 q230 q232 q233 q234 q235 q276 q277 q278 q279 q281 q282 q283 q284 q300 q301 q302 q303 q305 q306 q307 q308
  have bk312 := Held.now h293
  have q313 := Blk.cell bk312 0
  have q314 := Blk.cell bk312 1
  have q315 := Blk.cell bk312 2
  have q316 := Blk.cell bk312 3
  clear bk312
  go_wp2_with fail
  (go_at_call 37; (with_reducible refine (markWeighting_any x_aW _ _ _ 1 1 (by omega) _ _ (Held.now h292) (Nat.le_trans (Nat.le_trans (Nat.le_trans (Nat.le_trans (Nat.le_trans (Nat.le_trans (le111.out) le143.out) le164.out) le205.out) le248.out) le270.out) t298.out) (by omega)).mono ?_); rintro e W311 ⟨rfl, o309, k310, k317⟩)
  have r318 := k317 _ lt114
  clear k310 k317
  have h319 := Held.ran h287 (r318) (Nat.le_trans (Nat.le_trans (Nat.le_trans (Nat.le_trans (Nat.le_trans (Nat.le_trans (Nat.le_trans (Nat.le_trans (Nat.le_trans (Nat.le_trans (Nat.le_trans (le9.out) le30.out) le45.out) le64.out) le87.out) le111.out) le143.out) le164.out) le205.out) le248.out) le270.out) t298.out) (.inr (Nat.le_trans (Nat.le_trans (Nat.le_trans (Nat.le_trans (le9.out) le30.out) le45.out) le64.out) le87.out))
  have h320 := Held.ran h288 (r318) (Nat.le_trans (Nat.le_trans (Nat.le_trans (Nat.le_trans (Nat.le_trans (Nat.le_trans (Nat.le_trans (Nat.le_trans (Nat.le_trans (Nat.le_trans (le30.out) le45.out) le64.out) le87.out) le111.out) le143.out) le164.out) le205.out) le248.out) le270.out) t298.out) (.inr (Nat.le_trans (Nat.le_trans (Nat.le_trans (le30.out) le45.out) le64.out) le87.out))
  have h321 := Held.ran h289 (r318) (Nat.le_trans (Nat.le_trans (Nat.le_trans (Nat.le_trans (Nat.le_trans (Nat.le_trans (Nat.le_trans (Nat.le_trans (le64.out) le87.out) le111.out) le143.out) le164.out) le205.out) le248.out) le270.out) t298.out) (.inr (Nat.le_trans (le64.out) le87.out))
  have h322 := Held.ran h290 (r318) (Nat.le_trans (Nat.le_trans (Nat.le_trans (Nat.le_trans (Nat.le_trans (Nat.le_trans (Nat.le_trans (le87.out) le111.out) le143.out) le164.out) le205.out) le248.out) le270.out) t298.out) (.inr (le87.out))
  have h323 := Held.ran h291 (r318) (Nat.le_trans (Nat.le_trans (Nat.le_trans (Nat.le_trans (Nat.le_trans (Nat.le_trans (le111.out) le143.out) le164.out) le205.out) le248.out) le270.out) t298.out) (.inr (Nat.le_refl _))
  have h324 := Held.ran h293 (r318) (Nat.le_trans (Nat.le_trans (Nat.le_trans (Nat.le_trans (le164.out) le205.out) le248.out) le270.out) t298.out) (.inl (Nat.le_refl _))
  have h325 := Held.ran h294 (r318) (Nat.le_trans (Nat.le_trans (Nat.le_trans (le205.out) le248.out) le270.out) t298.out) (.inl (le143.out))
  have h326 := Held.ran h295 (r318) (Nat.le_trans (Nat.le_trans (le248.out) le270.out) t298.out) (.inl (Nat.le_trans (le143.out) le164.out))
  have h327 := Held.ran h296 (r318) (Nat.le_trans (Nat.le_refl _) t298.out) (.inl (Nat.le_trans (Nat.le_trans (Nat.le_trans (le143.out) le164.out) le205.out) le248.out))
  have bel328 : Below w.heap.size w W311 := Below.trans bel297 (Ran.below r318 (Nat.le_trans (Nat.le_trans (Nat.le_trans (Nat.le_trans (le9.out) le30.out) le45.out) le64.out) le87.out) (Nat.le_trans (Nat.le_trans (Nat.le_trans (Nat.le_trans (Nat.le_trans (Nat.le_trans (Nat.le_trans (Nat.le_trans (Nat.le_trans (Nat.le_trans (Nat.le_trans (le9.out) le30.out) le45.out) le64.out) le87.out) le111.out) le143.out) le164.out) le205.out) le248.out) le270.out) t298.out))
  have t329 : Hid (W250.heap.size ≤ W311.heap.size) := Lib.hid (Nat.le_trans t298.out (Ran.size r318))
  clear h287 h288 h289 h290 h291 h293 h294 h295 h296 bel297
  have h330 := held_own o309 lt114
  clear o309 h292 r318
  clear q313
  clear q314
  clear q315
  clear q316
  have bk331 := Held.now h326
  have q332 := Blk.cell bk331 0
  have q333 := Blk.cell bk331 1
  have q334 := Blk.cell bk331 2
  have q335 := Blk.cell bk331 3
  clear bk331
  have bk336 := Held.now h323
  have q337 := Blk.cell bk336 0
  have q338 := Blk.cell bk336 1
  have q339 := Blk.cell bk336 2
  have q340 := Blk.cell bk336 3
  clear bk336
  go_wp2_with fail
  (go_at_call 32; (with_reducible refine (eqWeighting_any (scaR x_aW i_aBy) _ _ _ _ _ _ (Own.row (Held.now h325)) (Own.row (Held.now h322)) (Nat.le_refl _) (Nat.le_refl _)).mono ?_); rintro e W342 ⟨rfl, b341⟩)
  have h343 := Held.ran h319 (ran_below b341 _) (Nat.le_trans (Nat.le_trans (Nat.le_trans (Nat.le_trans (Nat.le_trans (Nat.le_trans (Nat.le_trans (Nat.le_trans (Nat.le_trans (Nat.le_trans (Nat.le_trans (le9.out) le30.out) le45.out) le64.out) le87.out) le111.out) le143.out) le164.out) le205.out) le248.out) le270.out) t329.out) (.inr (Nat.le_refl _))
  have h344 := Held.ran h320 (ran_below b341 _) (Nat.le_trans (Nat.le_trans (Nat.le_trans (Nat.le_trans (Nat.le_trans (Nat.le_trans (Nat.le_trans (Nat.le_trans (Nat.le_trans (Nat.le_trans (le30.out) le45.out) le64.out) le87.out) le111.out) le143.out) le164.out) le205.out) le248.out) le270.out) t329.out) (.inr (Nat.le_refl _))
  have h345 := Held.ran h321 (ran_below b341 _) (Nat.le_trans (Nat.le_trans (Nat.le_trans (Nat.le_trans (Nat.le_trans (Nat.le_trans (Nat.le_trans (Nat.le_trans (le64.out) le87.out) le111.out) le143.out) le164.out) le205.out) le248.out) le270.out) t329.out) (.inr (Nat.le_refl _))
  have h346 := Held.ran h322 (ran_below b341 _) (Nat.le_trans (Nat.le_trans (Nat.le_trans (Nat.le_trans (Nat.le_trans (Nat.le_trans (Nat.le_trans (le87.out) le111.out) le143.out) le164.out) le205.out) le248.out) le270.out) t329.out) (.inr (Nat.le_refl _))
  have h347 := Held.ran h323 (ran_below b341 _) (Nat.le_trans (Nat.le_trans (Nat.le_trans (Nat.le_trans (Nat.le_trans (Nat.le_trans (le111.out) le143.out) le164.out) le205.out) le248.out) le270.out) t329.out) (.inr (Nat.le_refl _))
  have h348 := Held.ran h330 (ran_below b341 _) (Nat.le_trans (Nat.le_trans (Nat.le_trans (Nat.le_trans (Nat.le_trans (le143.out) le164.out) le205.out) le248.out) le270.out) t329.out) (.inr (Nat.le_refl _))
  have h349 := Held.ran h324 (ran_below b341 _) (Nat.le_trans (Nat.le_trans (Nat.le_trans (Nat.le_trans (le164.out) le205.out) le248.out) le270.out) t329.out) (.inr (Nat.le_refl _))
  have h350 := Held.ran h325 (ran_below b341 _) (Nat.le_trans (Nat.le_trans (Nat.le_trans (le205.out) le248.out) le270.out) t329.out) (.inr (Nat.le_refl _))
  have h351 := Held.ran h326 (ran_below b341 _) (Nat.le_trans (Nat.le_trans (le248.out) le270.out) t329.out) (.inr (Nat.le_refl _))
  have h352 := Held.ran h327 (ran_below b341 _) (Nat.le_trans (Nat.le_refl _) t329.out) (.inr (Nat.le_refl _))
  have bel353 : Below w.heap.size w W342 := Below.trans bel328 (Below.mono b341 (Nat.le_trans (Nat.le_trans (Nat.le_trans (Nat.le_trans (Nat.le_trans (Nat.le_trans (Nat.le_trans (Nat.le_trans (Nat.le_trans (Nat.le_trans (Nat.le_trans (le9.out) le30.out) le45.out) le64.out) le87.out) le111.out) le143.out) le164.out) le205.out) le248.out) le270.out) t329.out))
  have t354 : Hid (W250.heap.size ≤ W342.heap.size) := Lib.hid (Nat.le_trans t329.out (Below.size b341))
  clear h319 h320 h321 h322 h323 h330 h324 h325 h326 h327 bel328
  clear b341
  clear q332
  clear q333
  clear q334
  clear q335
  clear q337
  clear q338
  clear q339
  clear q340
  have bk358 := Held.now h351
  have q359 := Blk.cell bk358 0
  have q360 := Blk.cell bk358 1
  have q361 := Blk.cell bk358 2
  have q362 := Blk.cell bk358 3
  clear bk358
  go_wp2_with fail
  (go_at_call 37; (with_reducible refine (markWeighting_any ((scaR x_aW i_aBy)) _ _ _ 1 1 (by omega) _ _ (Held.now h350) (Nat.le_trans (Nat.le_trans (Nat.le_trans (Nat.le_trans (le164.out) le205.out) le248.out) le270.out) t354.out) (by omega)).mono ?_); rintro e W357 ⟨rfl, o355, k356, k363⟩)
  have r364 := k363 _ lt167
  clear k356 k363
  have h365 := Held.ran h343 (r364) (Nat.le_trans (Nat.le_trans (Nat.le_trans (Nat.le_trans (Nat.le_trans (Nat.le_trans (Nat.le_trans (Nat.le_trans (Nat.le_trans (Nat.le_trans (Nat.le_trans (le9.out) le30.out) le45.out) le64.out) le87.out) le111.out) le143.out) le164.out) le205.out) le248.out) le270.out) t354.out) (.inr (Nat.le_trans (Nat.le_trans (Nat.le_trans (Nat.le_trans (Nat.le_trans (Nat.le_trans (le9.out) le30.out) le45.out) le64.out) le87.out) le111.out) le143.out))
  have h366 := Held.ran h344 (r364) (Nat.le_trans (Nat.le_trans (Nat.le_trans (Nat.le_trans (Nat.le_trans (Nat.le_trans (Nat.le_trans (Nat.le_trans (Nat.le_trans (Nat.le_trans (le30.out) le45.out) le64.out) le87.out) le111.out) le143.out) le164.out) le205.out) le248.out) le270.out) t354.out) (.inr (Nat.le_trans (Nat.le_trans (Nat.le_trans (Nat.le_trans (Nat.le_trans (le30.out) le45.out) le64.out) le87.out) le111.out) le143.out))
  have h367 := Held.ran h345 (r364) (Nat.le_trans (Nat.le_trans (Nat.le_trans (Nat.le_trans (Nat.le_trans (Nat.le_trans (Nat.le_trans (Nat.le_trans (le64.out) le87.out) le111.out) le143.out) le164.out) le205.out) le248.out) le270.out) t354.out) (.inr (Nat.le_trans (Nat.le_trans (Nat.le_trans (le64.out) le87.out) le111.out) le143.out))
  have h368 := Held.ran h346 (r364) (Nat.le_trans (Nat.le_trans (Nat.le_trans (Nat.le_trans (Nat.le_trans (Nat.le_trans (Nat.le_trans (le87.out) le111.out) le143.out) le164.out) le205.out) le248.out) le270.out) t354.out) (.inr (Nat.le_trans (Nat.le_trans (le87.out) le111.out) le143.out))
  have h369 := Held.ran h347 (r364) (Nat.le_trans (Nat.le_trans (Nat.le_trans (Nat.le_trans (Nat.le_trans (Nat.le_trans (le111.out) le143.out) le164.out) le205.out) le248.out) le270.out) t354.out) (.inr (Nat.le_trans (le111.out) le143.out))
  have h370 := Held.ran h348 (r364) (Nat.le_trans (Nat.le_trans (Nat.le_trans (Nat.le_trans (Nat.le_trans (le143.out) le164.out) le205.out) le248.out) le270.out) t354.out) (.inr (le143.out))
  have h371 := Held.ran h349 (r364) (Nat.le_trans (Nat.le_trans (Nat.le_trans (Nat.le_trans (le164.out) le205.out) le248.out) le270.out) t354.out) (.inr (Nat.le_refl _))
  have h372 := Held.ran h351 (r364) (Nat.le_trans (Nat.le_trans (le248.out) le270.out) t354.out) (.inl (Nat.le_refl _))
  have h373 := Held.ran h352 (r364) (Nat.le_trans (Nat.le_refl _) t354.out) (.inl (Nat.le_trans (le205.out) le248.out))
  have bel374 : Below w.heap.size w W357 := Below.trans bel353 (Ran.below r364 (Nat.le_trans (Nat.le_trans (Nat.le_trans (Nat.le_trans (Nat.le_trans (Nat.le_trans (le9.out) le30.out) le45.out) le64.out) le87.out) le111.out) le143.out) (Nat.le_trans (Nat.le_trans (Nat.le_trans (Nat.le_trans (Nat.le_trans (Nat.le_trans (Nat.le_trans (Nat.le_trans (Nat.le_trans (Nat.le_trans (Nat.le_trans (le9.out) le30.out) le45.out) le64.out) le87.out) le111.out) le143.out) le164.out) le205.out) le248.out) le270.out) t354.out))
  have t375 : Hid (W250.heap.size ≤ W357.heap.size) := Lib.hid (Nat.le_trans t354.out (Ran.size r364))
  clear h343 h344 h345 h346 h347 h348 h349 h351 h352 bel353
  have h376 := held_own o355 lt167
  clear o355 h350 r364
  clear q359
  clear q360
  clear q361
  clear q362
  have bk377 := Held.now h372
  have q378 := Blk.cell bk377 0
  have q379 := Blk.cell bk377 1
  have q380 := Blk.cell bk377 2
  have q381 := Blk.cell bk377 3
  clear bk377
  go_wp2_with fail
  (go_at_call 46; (with_reducible refine (heldWeighting_any ((scaR x_aW i_aBy)) _ _ _ 1 1 (by omega) _ (Own.row (Held.now h376)) (Nat.le_refl _) (by omega)).mono ?_); rintro e W383 ⟨rfl, b382⟩)
  have h384 := Held.ran h365 (ran_below b382 _) (Nat.le_trans (Nat.le_trans (Nat.le_trans (Nat.le_trans (Nat.le_trans (Nat.le_trans (Nat.le_trans (Nat.le_trans (Nat.le_trans (Nat.le_trans (Nat.le_trans (le9.out) le30.out) le45.out) le64.out) le87.out) le111.out) le143.out) le164.out) le205.out) le248.out) le270.out) t375.out) (.inr (Nat.le_refl _))
  have h385 := Held.ran h366 (ran_below b382 _) (Nat.le_trans (Nat.le_trans (Nat.le_trans (Nat.le_trans (Nat.le_trans (Nat.le_trans (Nat.le_trans (Nat.le_trans (Nat.le_trans (Nat.le_trans (le30.out) le45.out) le64.out) le87.out) le111.out) le143.out) le164.out) le205.out) le248.out) le270.out) t375.out) (.inr (Nat.le_refl _))
  have h386 := Held.ran h367 (ran_below b382 _) (Nat.le_trans (Nat.le_trans (Nat.le_trans (Nat.le_trans (Nat.le_trans (Nat.le_trans (Nat.le_trans (Nat.le_trans (le64.out) le87.out) le111.out) le143.out) le164.out) le205.out) le248.out) le270.out) t375.out) (.inr (Nat.le_refl _))
  have h387 := Held.ran h368 (ran_below b382 _) (Nat.le_trans (Nat.le_trans (Nat.le_trans (Nat.le_trans (Nat.le_trans (Nat.le_trans (Nat.le_trans (le87.out) le111.out) le143.out) le164.out) le205.out) le248.out) le270.out) t375.out) (.inr (Nat.le_refl _))
  have h388 := Held.ran h369 (ran_below b382 _) (Nat.le_trans (Nat.le_trans (Nat.le_trans (Nat.le_trans (Nat.le_trans (Nat.le_trans (le111.out) le143.out) le164.out) le205.out) le248.out) le270.out) t375.out) (.inr (Nat.le_refl _))
  have h389 := Held.ran h370 (ran_below b382 _) (Nat.le_trans (Nat.le_trans (Nat.le_trans (Nat.le_trans (Nat.le_trans (le143.out) le164.out) le205.out) le248.out) le270.out) t375.out) (.inr (Nat.le_refl _))
  have h390 := Held.ran h371 (ran_below b382 _) (Nat.le_trans (Nat.le_trans (Nat.le_trans (Nat.le_trans (le164.out) le205.out) le248.out) le270.out) t375.out) (.inr (Nat.le_refl _))
  have h391 := Held.ran h376 (ran_below b382 _) (Nat.le_trans (Nat.le_trans (Nat.le_trans (le205.out) le248.out) le270.out) t375.out) (.inr (Nat.le_refl _))
  have h392 := Held.ran h372 (ran_below b382 _) (Nat.le_trans (Nat.le_trans (le248.out) le270.out) t375.out) (.inr (Nat.le_refl _))
  have h393 := Held.ran h373 (ran_below b382 _) (Nat.le_trans (Nat.le_refl _) t375.out) (.inr (Nat.le_refl _))
  have bel394 : Below w.heap.size w W383 := Below.trans bel374 (Below.mono b382 (Nat.le_trans (Nat.le_trans (Nat.le_trans (Nat.le_trans (Nat.le_trans (Nat.le_trans (Nat.le_trans (Nat.le_trans (Nat.le_trans (Nat.le_trans (Nat.le_trans (le9.out) le30.out) le45.out) le64.out) le87.out) le111.out) le143.out) le164.out) le205.out) le248.out) le270.out) t375.out))
  have t395 : Hid (W250.heap.size ≤ W383.heap.size) := Lib.hid (Nat.le_trans t375.out (Below.size b382))
  clear h365 h366 h367 h368 h369 h370 h371 h376 h372 h373 bel374
  clear b382
  clear q378
  clear q379
  clear q380
  clear q381
  have bk397 := Held.now h385
  have q398 := Blk.cell bk397 0
  have q399 := Blk.cell bk397 1
  have q400 := Blk.cell bk397 2
  have q401 := Blk.cell bk397 3
  clear bk397
  go_wp2_with fail
  have le402 : Hid (W250.heap.size ≤ W383.heap.size) := t395
  have t403 : Hid (W383.heap.size ≤ W383.heap.size) := Lib.hid (Nat.le_refl _)
  (go_at_call 30; (with_reducible refine (toWeighting_any x_aW _ _ _ _ (RowB.up (Held.now h384) (Nat.le_trans (Nat.le_trans (Nat.le_trans (Nat.le_trans (Nat.le_trans (Nat.le_trans (Nat.le_trans (Nat.le_trans (Nat.le_trans (Nat.le_trans (Nat.le_trans (le9.out) le30.out) le45.out) le64.out) le87.out) le111.out) le143.out) le164.out) le205.out) le248.out) le270.out) t395.out)) (Nat.le_refl _) H20.out).mono ?_); rintro e W404 ⟨A407, c408, rfl, o406, b405⟩)
  have h413 := Held.ran h384 (ran_below b405 _) (Nat.le_trans (Nat.le_trans (Nat.le_trans (Nat.le_trans (Nat.le_trans (Nat.le_trans (Nat.le_trans (Nat.le_trans (Nat.le_trans (Nat.le_trans (Nat.le_trans (Nat.le_trans (le9.out) le30.out) le45.out) le64.out) le87.out) le111.out) le143.out) le164.out) le205.out) le248.out) le270.out) le402.out) t403.out) (.inr (Nat.le_refl _))
  have h414 := Held.ran h385 (ran_below b405 _) (Nat.le_trans (Nat.le_trans (Nat.le_trans (Nat.le_trans (Nat.le_trans (Nat.le_trans (Nat.le_trans (Nat.le_trans (Nat.le_trans (Nat.le_trans (Nat.le_trans (le30.out) le45.out) le64.out) le87.out) le111.out) le143.out) le164.out) le205.out) le248.out) le270.out) le402.out) t403.out) (.inr (Nat.le_refl _))
  have h415 := Held.ran h386 (ran_below b405 _) (Nat.le_trans (Nat.le_trans (Nat.le_trans (Nat.le_trans (Nat.le_trans (Nat.le_trans (Nat.le_trans (Nat.le_trans (Nat.le_trans (le64.out) le87.out) le111.out) le143.out) le164.out) le205.out) le248.out) le270.out) le402.out) t403.out) (.inr (Nat.le_refl _))
  have h416 := Held.ran h387 (ran_below b405 _) (Nat.le_trans (Nat.le_trans (Nat.le_trans (Nat.le_trans (Nat.le_trans (Nat.le_trans (Nat.le_trans (Nat.le_trans (le87.out) le111.out) le143.out) le164.out) le205.out) le248.out) le270.out) le402.out) t403.out) (.inr (Nat.le_refl _))
  have h417 := Held.ran h388 (ran_below b405 _) (Nat.le_trans (Nat.le_trans (Nat.le_trans (Nat.le_trans (Nat.le_trans (Nat.le_trans (Nat.le_trans (le111.out) le143.out) le164.out) le205.out) le248.out) le270.out) le402.out) t403.out) (.inr (Nat.le_refl _))
  have h418 := Held.ran h389 (ran_below b405 _) (Nat.le_trans (Nat.le_trans (Nat.le_trans (Nat.le_trans (Nat.le_trans (Nat.le_trans (le143.out) le164.out) le205.out) le248.out) le270.out) le402.out) t403.out) (.inr (Nat.le_refl _))
  have h419 := Held.ran h390 (ran_below b405 _) (Nat.le_trans (Nat.le_trans (Nat.le_trans (Nat.le_trans (Nat.le_trans (le164.out) le205.out) le248.out) le270.out) le402.out) t403.out) (.inr (Nat.le_refl _))
  have h420 := Held.ran h391 (ran_below b405 _) (Nat.le_trans (Nat.le_trans (Nat.le_trans (Nat.le_trans (le205.out) le248.out) le270.out) le402.out) t403.out) (.inr (Nat.le_refl _))
  have h421 := Held.ran h392 (ran_below b405 _) (Nat.le_trans (Nat.le_trans (Nat.le_trans (le248.out) le270.out) le402.out) t403.out) (.inr (Nat.le_refl _))
  have h422 := Held.ran h393 (ran_below b405 _) (Nat.le_trans (le402.out) t403.out) (.inr (Nat.le_refl _))
  have bel423 : Below w.heap.size w W404 := Below.trans bel394 (Below.mono b405 (Nat.le_trans (Nat.le_trans (Nat.le_trans (Nat.le_trans (Nat.le_trans (Nat.le_trans (Nat.le_trans (Nat.le_trans (Nat.le_trans (Nat.le_trans (Nat.le_trans (Nat.le_trans (le9.out) le30.out) le45.out) le64.out) le87.out) le111.out) le143.out) le164.out) le205.out) le248.out) le270.out) le402.out) t403.out))
  have t424 : Hid (W383.heap.size ≤ W404.heap.size) := Lib.hid (Nat.le_trans t403.out (Below.size b405))
  clear h384 h385 h386 h387 h388 h389 h390 h391 h392 h393 bel394
  have le425 : Hid (W383.heap.size ≤ W404.heap.size) := t424
  have t426 : Hid (W404.heap.size ≤ W404.heap.size) := Lib.hid (Nat.le_refl _)
  have fr427 := Own.from o406
  have lt428 := Own.lt o406
  have h429 := held_own o406 lt428
  clear o406 b405
  clear q398
  clear q399
  clear q400
  clear q401
  go_wp2_with fail
  (go_at_call 48; (with_reducible refine (implSca_any x_aW _ _ _ _ _ (Own.row (Held.now h429)) (Nat.le_refl _)).mono ?_); rintro e W430 ⟨A433, c434, rfl, o432, b431⟩)
  have h439 := Held.ran h413 (ran_below b431 _) (Nat.le_trans (Nat.le_trans (Nat.le_trans (Nat.le_trans (Nat.le_trans (Nat.le_trans (Nat.le_trans (Nat.le_trans (Nat.le_trans (Nat.le_trans (Nat.le_trans (Nat.le_trans (Nat.le_trans (le9.out) le30.out) le45.out) le64.out) le87.out) le111.out) le143.out) le164.out) le205.out) le248.out) le270.out) le402.out) le425.out) t426.out) (.inr (Nat.le_refl _))
  have h440 := Held.ran h414 (ran_below b431 _) (Nat.le_trans (Nat.le_trans (Nat.le_trans (Nat.le_trans (Nat.le_trans (Nat.le_trans (Nat.le_trans (Nat.le_trans (Nat.le_trans (Nat.le_trans (Nat.le_trans (Nat.le_trans (le30.out) le45.out) le64.out) le87.out) le111.out) le143.out) le164.out) le205.out) le248.out) le270.out) le402.out) le425.out) t426.out) (.inr (Nat.le_refl _))
  have h441 := Held.ran h415 (ran_below b431 _) (Nat.le_trans (Nat.le_trans (Nat.le_trans (Nat.le_trans (Nat.le_trans (Nat.le_trans (Nat.le_trans (Nat.le_trans (Nat.le_trans (Nat.le_trans (le64.out) le87.out) le111.out) le143.out) le164.out) le205.out) le248.out) le270.out) le402.out) le425.out) t426.out) (.inr (Nat.le_refl _))
  have h442 := Held.ran h416 (ran_below b431 _) (Nat.le_trans (Nat.le_trans (Nat.le_trans (Nat.le_trans (Nat.le_trans (Nat.le_trans (Nat.le_trans (Nat.le_trans (Nat.le_trans (le87.out) le111.out) le143.out) le164.out) le205.out) le248.out) le270.out) le402.out) le425.out) t426.out) (.inr (Nat.le_refl _))
  have h443 := Held.ran h417 (ran_below b431 _) (Nat.le_trans (Nat.le_trans (Nat.le_trans (Nat.le_trans (Nat.le_trans (Nat.le_trans (Nat.le_trans (Nat.le_trans (le111.out) le143.out) le164.out) le205.out) le248.out) le270.out) le402.out) le425.out) t426.out) (.inr (Nat.le_refl _))
  have h444 := Held.ran h418 (ran_below b431 _) (Nat.le_trans (Nat.le_trans (Nat.le_trans (Nat.le_trans (Nat.le_trans (Nat.le_trans (Nat.le_trans (le143.out) le164.out) le205.out) le248.out) le270.out) le402.out) le425.out) t426.out) (.inr (Nat.le_refl _))
  have h445 := Held.ran h419 (ran_below b431 _) (Nat.le_trans (Nat.le_trans (Nat.le_trans (Nat.le_trans (Nat.le_trans (Nat.le_trans (le164.out) le205.out) le248.out) le270.out) le402.out) le425.out) t426.out) (.inr (Nat.le_refl _))
  have h446 := Held.ran h420 (ran_below b431 _) (Nat.le_trans (Nat.le_trans (Nat.le_trans (Nat.le_trans (Nat.le_trans (le205.out) le248.out) le270.out) le402.out) le425.out) t426.out) (.inr (Nat.le_refl _))
  have h447 := Held.ran h421 (ran_below b431 _) (Nat.le_trans (Nat.le_trans (Nat.le_trans (Nat.le_trans (le248.out) le270.out) le402.out) le425.out) t426.out) (.inr (Nat.le_refl _))
  have h448 := Held.ran h422 (ran_below b431 _) (Nat.le_trans (Nat.le_trans (le402.out) le425.out) t426.out) (.inr (Nat.le_refl _))
  have h449 := Held.ran h429 (ran_below b431 _) (Nat.le_refl _) (.inr (Nat.le_refl _))
  have bel450 : Below w.heap.size w W430 := Below.trans bel423 (Below.mono b431 (Nat.le_trans (Nat.le_trans (Nat.le_trans (Nat.le_trans (Nat.le_trans (Nat.le_trans (Nat.le_trans (Nat.le_trans (Nat.le_trans (Nat.le_trans (Nat.le_trans (Nat.le_trans (Nat.le_trans (le9.out) le30.out) le45.out) le64.out) le87.out) le111.out) le143.out) le164.out) le205.out) le248.out) le270.out) le402.out) le425.out) t426.out))
  have t451 : Hid (W404.heap.size ≤ W430.heap.size) := Lib.hid (Nat.le_trans t426.out (Below.size b431))
  clear h413 h414 h415 h416 h417 h418 h419 h420 h421 h422 h429 bel423
  have le452 : Hid (W404.heap.size ≤ W430.heap.size) := t451
  have t453 : Hid (W430.heap.size ≤ W430.heap.size) := Lib.hid (Nat.le_refl _)
  have fr454 := Own.from o432
  have lt455 := Own.lt o432
  have h456 := held_own o432 lt455
  clear o432 b431
  have bk461 := Held.now h440
  have q462 : W430.cell? ⟨w.heap.size, 0, none⟩ = some (.int .i64 x_aW.base) := Blk.cell bk461 0
  have q463 : W430.cell? ⟨w.heap.size, 1, none⟩ = some (.int .i64 x_aW.modulus) := Blk.cell bk461 1
  have q464 : W430.cell? ⟨w.heap.size, 2, none⟩ = some (.int .i64 x_aW.target) := Blk.cell bk461 2
  have q465 : W430.cell? ⟨w.heap.size, 3, none⟩ = some (.slice A_aW n_aW c_aW) := Blk.cell bk461 3
  clear bk461
  have lt466 : w.heap.size < W430.heap.size := Nat.lt_of_lt_of_le lt5.out (Nat.le_trans (Nat.le_trans (Nat.le_trans (Nat.le_trans (Nat.le_trans (Nat.le_trans (Nat.le_trans (Nat.le_trans (Nat.le_trans (Nat.le_trans (Nat.le_trans (Nat.le_trans (Nat.le_trans (le30.out) le45.out) le64.out) le87.out) le111.out) le143.out) le164.out) le205.out) le248.out) le270.out) le402.out) le425.out) le452.out) t453.out)
  have ne467 : w.heap.size ≠ W430.heap.size := Nat.ne_of_lt lt466
  have bk468 := Held.now h443
  have q469 : W430.cell? ⟨W50.heap.size, 0, none⟩ = some (.int .i64 ((scaR x_aW i_aBy)).base) := Blk.cell bk468 0
  have q470 : W430.cell? ⟨W50.heap.size, 1, none⟩ = some (.int .i64 ((scaR x_aW i_aBy)).modulus) := Blk.cell bk468 1
  have q471 : W430.cell? ⟨W50.heap.size, 2, none⟩ = some (.int .i64 ((scaR x_aW i_aBy)).target) := Blk.cell bk468 2
  have q472 : W430.cell? ⟨W50.heap.size, 3, none⟩ = some (.slice A53 (scaR x_aW i_aBy).W.length c54) := Blk.cell bk468 3
  clear bk468
  have lt473 : W50.heap.size < W430.heap.size := Nat.lt_of_lt_of_le lt80.out (Nat.le_trans (Nat.le_trans (Nat.le_trans (Nat.le_trans (Nat.le_trans (Nat.le_trans (Nat.le_trans (Nat.le_trans (Nat.le_trans (le111.out) le143.out) le164.out) le205.out) le248.out) le270.out) le402.out) le425.out) le452.out) t453.out)
  have ne474 : W50.heap.size ≠ W430.heap.size := Nat.ne_of_lt lt473
  have bk475 := Held.now h445
  have q476 : W430.cell? ⟨W95.heap.size, 0, none⟩ = some (.int .i64 x_aW.base) := Blk.cell bk475 0
  have q477 : W430.cell? ⟨W95.heap.size, 1, none⟩ = some (.int .i64 x_aW.modulus) := Blk.cell bk475 1
  have q478 : W430.cell? ⟨W95.heap.size, 2, none⟩ = some (.int .i64 x_aW.target) := Blk.cell bk475 2
  have q479 : W430.cell? ⟨W95.heap.size, 3, none⟩ = some (.slice A98 x_aW.W.length c99) := Blk.cell bk475 3
  clear bk475
  have lt480 : W95.heap.size < W430.heap.size := Nat.lt_of_lt_of_le lt134.out (Nat.le_trans (Nat.le_trans (Nat.le_trans (Nat.le_trans (Nat.le_trans (Nat.le_trans (Nat.le_trans (le164.out) le205.out) le248.out) le270.out) le402.out) le425.out) le452.out) t453.out)
  have ne481 : W95.heap.size ≠ W430.heap.size := Nat.ne_of_lt lt480
  have bk482 := Held.now h447
  have q483 : W430.cell? ⟨W146.heap.size, 0, none⟩ = some (.int .i64 ((scaR x_aW i_aBy)).base) := Blk.cell bk482 0
  have q484 : W430.cell? ⟨W146.heap.size, 1, none⟩ = some (.int .i64 ((scaR x_aW i_aBy)).modulus) := Blk.cell bk482 1
  have q485 : W430.cell? ⟨W146.heap.size, 2, none⟩ = some (.int .i64 ((scaR x_aW i_aBy)).target) := Blk.cell bk482 2
  have q486 : W430.cell? ⟨W146.heap.size, 3, none⟩ = some (.slice A149 (scaR x_aW i_aBy).W.length c150) := Blk.cell bk482 3
  clear bk482
  have lt487 : W146.heap.size < W430.heap.size := Nat.lt_of_lt_of_le lt194.out (Nat.le_trans (Nat.le_trans (Nat.le_trans (Nat.le_trans (Nat.le_trans (le248.out) le270.out) le402.out) le425.out) le452.out) t453.out)
  have ne488 : W146.heap.size ≠ W430.heap.size := Nat.ne_of_lt lt487
  obtain ⟨W457, hW458⟩ : ∃ W457, W457 = W430.alloc (.cells #[.int .i64 ((scaR x_aW i_aBy)).base, .int .i64 ((scaR x_aW i_aBy)).modulus, .int .i64 ((scaR x_aW i_aBy)).target, .slice A433 (scaR x_aW i_aBy).W.length c434] 44) := ⟨_, rfl⟩
  have be459 : Below W430.heap.size W430 W457 := by rw [hW458]; exact (Below.refl _ _).alloc (Nat.le_refl _) _
  have bk460 : Blk W457 W430.heap.size #[.int .i64 ((scaR x_aW i_aBy)).base, .int .i64 ((scaR x_aW i_aBy)).modulus, .int .i64 ((scaR x_aW i_aBy)).target, .slice A433 (scaR x_aW i_aBy).W.length c434] 44 := by rw [hW458]; exact Blk.new _ _ _
  have lt489 : Hid (W430.heap.size < W457.heap.size) := Lib.hid (Blk.lt bk460)
  have h490 := Held.ran h439 (ran_below be459 _) (Nat.le_trans (Nat.le_trans (Nat.le_trans (Nat.le_trans (Nat.le_trans (Nat.le_trans (Nat.le_trans (Nat.le_trans (Nat.le_trans (Nat.le_trans (Nat.le_trans (Nat.le_trans (Nat.le_trans (Nat.le_trans (le9.out) le30.out) le45.out) le64.out) le87.out) le111.out) le143.out) le164.out) le205.out) le248.out) le270.out) le402.out) le425.out) le452.out) t453.out) (.inr (Nat.le_refl _))
  have h491 := Held.ran h440 (ran_below be459 _) (Nat.le_trans (Nat.le_trans (Nat.le_trans (Nat.le_trans (Nat.le_trans (Nat.le_trans (Nat.le_trans (Nat.le_trans (Nat.le_trans (Nat.le_trans (Nat.le_trans (Nat.le_trans (Nat.le_trans (le30.out) le45.out) le64.out) le87.out) le111.out) le143.out) le164.out) le205.out) le248.out) le270.out) le402.out) le425.out) le452.out) t453.out) (.inr (Nat.le_refl _))
  have h492 := Held.ran h441 (ran_below be459 _) (Nat.le_trans (Nat.le_trans (Nat.le_trans (Nat.le_trans (Nat.le_trans (Nat.le_trans (Nat.le_trans (Nat.le_trans (Nat.le_trans (Nat.le_trans (Nat.le_trans (le64.out) le87.out) le111.out) le143.out) le164.out) le205.out) le248.out) le270.out) le402.out) le425.out) le452.out) t453.out) (.inr (Nat.le_refl _))
  have h493 := Held.ran h442 (ran_below be459 _) (Nat.le_trans (Nat.le_trans (Nat.le_trans (Nat.le_trans (Nat.le_trans (Nat.le_trans (Nat.le_trans (Nat.le_trans (Nat.le_trans (Nat.le_trans (le87.out) le111.out) le143.out) le164.out) le205.out) le248.out) le270.out) le402.out) le425.out) le452.out) t453.out) (.inr (Nat.le_refl _))
  have h494 := Held.ran h443 (ran_below be459 _) (Nat.le_trans (Nat.le_trans (Nat.le_trans (Nat.le_trans (Nat.le_trans (Nat.le_trans (Nat.le_trans (Nat.le_trans (Nat.le_trans (le111.out) le143.out) le164.out) le205.out) le248.out) le270.out) le402.out) le425.out) le452.out) t453.out) (.inr (Nat.le_refl _))
  have h495 := Held.ran h444 (ran_below be459 _) (Nat.le_trans (Nat.le_trans (Nat.le_trans (Nat.le_trans (Nat.le_trans (Nat.le_trans (Nat.le_trans (Nat.le_trans (le143.out) le164.out) le205.out) le248.out) le270.out) le402.out) le425.out) le452.out) t453.out) (.inr (Nat.le_refl _))
  have h496 := Held.ran h445 (ran_below be459 _) (Nat.le_trans (Nat.le_trans (Nat.le_trans (Nat.le_trans (Nat.le_trans (Nat.le_trans (Nat.le_trans (le164.out) le205.out) le248.out) le270.out) le402.out) le425.out) le452.out) t453.out) (.inr (Nat.le_refl _))
  have h497 := Held.ran h446 (ran_below be459 _) (Nat.le_trans (Nat.le_trans (Nat.le_trans (Nat.le_trans (Nat.le_trans (Nat.le_trans (le205.out) le248.out) le270.out) le402.out) le425.out) le452.out) t453.out) (.inr (Nat.le_refl _))
  have h498 := Held.ran h447 (ran_below be459 _) (Nat.le_trans (Nat.le_trans (Nat.le_trans (Nat.le_trans (Nat.le_trans (le248.out) le270.out) le402.out) le425.out) le452.out) t453.out) (.inr (Nat.le_refl _))
  have h499 := Held.ran h448 (ran_below be459 _) (Nat.le_trans (Nat.le_trans (Nat.le_trans (le402.out) le425.out) le452.out) t453.out) (.inr (Nat.le_refl _))
  have h500 := Held.ran h449 (ran_below be459 _) (Nat.le_trans (le452.out) t453.out) (.inr (Nat.le_refl _))
  have h501 := Held.ran h456 (ran_below be459 _) (Nat.le_refl _) (.inr (Nat.le_refl _))
  have bel502 : Below w.heap.size w W457 := Below.trans bel450 (Below.mono be459 (Nat.le_trans (Nat.le_trans (Nat.le_trans (Nat.le_trans (Nat.le_trans (Nat.le_trans (Nat.le_trans (Nat.le_trans (Nat.le_trans (Nat.le_trans (Nat.le_trans (Nat.le_trans (Nat.le_trans (Nat.le_trans (le9.out) le30.out) le45.out) le64.out) le87.out) le111.out) le143.out) le164.out) le205.out) le248.out) le270.out) le402.out) le425.out) le452.out) t453.out))
  have t503 : Hid (W430.heap.size ≤ W457.heap.size) := Lib.hid (Nat.le_trans t453.out (Below.size be459))
  clear h439 h440 h441 h442 h443 h444 h445 h446 h447 h448 h449 h456 bel450
  have le504 : Hid (W430.heap.size ≤ W457.heap.size) := t503
  have t505 : Hid (W457.heap.size ≤ W457.heap.size) := Lib.hid (Nat.le_refl _)
  have h506 := held_blk bk460 (Nat.le_refl _) lt489.out
  clear bk460 be459
  have bk507 := Held.now h494
  have q508 := Blk.cell bk507 0
  have q509 := Blk.cell bk507 1
  have q510 := Blk.cell bk507 2
  have q511 := Blk.cell bk507 3
  clear bk507
  go_wp2_with fail
  rw [show W430.alloc (.cells #[.int .i64 ((scaR x_aW i_aBy)).base, .int .i64 ((scaR x_aW i_aBy)).modulus, .int .i64 ((scaR x_aW i_aBy)).target, .slice A433 (scaR x_aW i_aBy).W.length c434] 44) = W457 from hW458.symm]
  clear hW458
  clear q462 q463 q464 q465 lt466 ne467 q469 q470 q471 q472 lt473 ne474 q476 q477 q478 q479 lt480 ne481 q483 q484 q485 q486 lt487 ne488
  (go_at_call 32; (with_reducible refine (eqWeighting_any (scaR x_aW i_aBy) _ _ _ _ _ _ (Own.row (Held.now h501)) (Own.row (Held.now h493)) (Nat.le_refl _) (Nat.le_refl _)).mono ?_); rintro e W513 ⟨rfl, b512⟩)
  have h514 := Held.ran h490 (ran_below b512 _) (Nat.le_trans (Nat.le_trans (Nat.le_trans (Nat.le_trans (Nat.le_trans (Nat.le_trans (Nat.le_trans (Nat.le_trans (Nat.le_trans (Nat.le_trans (Nat.le_trans (Nat.le_trans (Nat.le_trans (Nat.le_trans (Nat.le_trans (le9.out) le30.out) le45.out) le64.out) le87.out) le111.out) le143.out) le164.out) le205.out) le248.out) le270.out) le402.out) le425.out) le452.out) le504.out) t505.out) (.inr (Nat.le_refl _))
  have h515 := Held.ran h491 (ran_below b512 _) (Nat.le_trans (Nat.le_trans (Nat.le_trans (Nat.le_trans (Nat.le_trans (Nat.le_trans (Nat.le_trans (Nat.le_trans (Nat.le_trans (Nat.le_trans (Nat.le_trans (Nat.le_trans (Nat.le_trans (Nat.le_trans (le30.out) le45.out) le64.out) le87.out) le111.out) le143.out) le164.out) le205.out) le248.out) le270.out) le402.out) le425.out) le452.out) le504.out) t505.out) (.inr (Nat.le_refl _))
  have h516 := Held.ran h492 (ran_below b512 _) (Nat.le_trans (Nat.le_trans (Nat.le_trans (Nat.le_trans (Nat.le_trans (Nat.le_trans (Nat.le_trans (Nat.le_trans (Nat.le_trans (Nat.le_trans (Nat.le_trans (Nat.le_trans (le64.out) le87.out) le111.out) le143.out) le164.out) le205.out) le248.out) le270.out) le402.out) le425.out) le452.out) le504.out) t505.out) (.inr (Nat.le_refl _))
  have h517 := Held.ran h493 (ran_below b512 _) (Nat.le_trans (Nat.le_trans (Nat.le_trans (Nat.le_trans (Nat.le_trans (Nat.le_trans (Nat.le_trans (Nat.le_trans (Nat.le_trans (Nat.le_trans (Nat.le_trans (le87.out) le111.out) le143.out) le164.out) le205.out) le248.out) le270.out) le402.out) le425.out) le452.out) le504.out) t505.out) (.inr (Nat.le_refl _))
  have h518 := Held.ran h494 (ran_below b512 _) (Nat.le_trans (Nat.le_trans (Nat.le_trans (Nat.le_trans (Nat.le_trans (Nat.le_trans (Nat.le_trans (Nat.le_trans (Nat.le_trans (Nat.le_trans (le111.out) le143.out) le164.out) le205.out) le248.out) le270.out) le402.out) le425.out) le452.out) le504.out) t505.out) (.inr (Nat.le_refl _))
  have h519 := Held.ran h495 (ran_below b512 _) (Nat.le_trans (Nat.le_trans (Nat.le_trans (Nat.le_trans (Nat.le_trans (Nat.le_trans (Nat.le_trans (Nat.le_trans (Nat.le_trans (le143.out) le164.out) le205.out) le248.out) le270.out) le402.out) le425.out) le452.out) le504.out) t505.out) (.inr (Nat.le_refl _))
  have h520 := Held.ran h496 (ran_below b512 _) (Nat.le_trans (Nat.le_trans (Nat.le_trans (Nat.le_trans (Nat.le_trans (Nat.le_trans (Nat.le_trans (Nat.le_trans (le164.out) le205.out) le248.out) le270.out) le402.out) le425.out) le452.out) le504.out) t505.out) (.inr (Nat.le_refl _))
  have h521 := Held.ran h497 (ran_below b512 _) (Nat.le_trans (Nat.le_trans (Nat.le_trans (Nat.le_trans (Nat.le_trans (Nat.le_trans (Nat.le_trans (le205.out) le248.out) le270.out) le402.out) le425.out) le452.out) le504.out) t505.out) (.inr (Nat.le_refl _))
  have h522 := Held.ran h498 (ran_below b512 _) (Nat.le_trans (Nat.le_trans (Nat.le_trans (Nat.le_trans (Nat.le_trans (Nat.le_trans (le248.out) le270.out) le402.out) le425.out) le452.out) le504.out) t505.out) (.inr (Nat.le_refl _))
  have h523 := Held.ran h499 (ran_below b512 _) (Nat.le_trans (Nat.le_trans (Nat.le_trans (Nat.le_trans (le402.out) le425.out) le452.out) le504.out) t505.out) (.inr (Nat.le_refl _))
  have h524 := Held.ran h500 (ran_below b512 _) (Nat.le_trans (Nat.le_trans (le452.out) le504.out) t505.out) (.inr (Nat.le_refl _))
  have h525 := Held.ran h501 (ran_below b512 _) (Nat.le_trans (le504.out) t505.out) (.inr (Nat.le_refl _))
  have h526 := Held.ran h506 (ran_below b512 _) (Nat.le_refl _) (.inr (Nat.le_refl _))
  have bel527 : Below w.heap.size w W513 := Below.trans bel502 (Below.mono b512 (Nat.le_trans (Nat.le_trans (Nat.le_trans (Nat.le_trans (Nat.le_trans (Nat.le_trans (Nat.le_trans (Nat.le_trans (Nat.le_trans (Nat.le_trans (Nat.le_trans (Nat.le_trans (Nat.le_trans (Nat.le_trans (Nat.le_trans (le9.out) le30.out) le45.out) le64.out) le87.out) le111.out) le143.out) le164.out) le205.out) le248.out) le270.out) le402.out) le425.out) le452.out) le504.out) t505.out))
  have t528 : Hid (W457.heap.size ≤ W513.heap.size) := Lib.hid (Nat.le_trans t505.out (Below.size b512))
  clear h490 h491 h492 h493 h494 h495 h496 h497 h498 h499 h500 h501 h506 bel502
  clear b512
  clear q508
  clear q509
  clear q510
  clear q511
  have bk529 := Held.now h522
  have q530 := Blk.cell bk529 0
  have q531 := Blk.cell bk529 1
  have q532 := Blk.cell bk529 2
  have q533 := Blk.cell bk529 3
  clear bk529
  go_wp2_with fail
  (go_at_call 46; (with_reducible refine (heldWeighting_any ((scaR x_aW i_aBy)) _ _ _ 1 1 (by omega) _ (Own.row (Held.now h521)) (Nat.le_refl _) (by omega)).mono ?_); rintro e W535 ⟨rfl, b534⟩)
  have h536 := Held.ran h514 (ran_below b534 _) (Nat.le_trans (Nat.le_trans (Nat.le_trans (Nat.le_trans (Nat.le_trans (Nat.le_trans (Nat.le_trans (Nat.le_trans (Nat.le_trans (Nat.le_trans (Nat.le_trans (Nat.le_trans (Nat.le_trans (Nat.le_trans (Nat.le_trans (le9.out) le30.out) le45.out) le64.out) le87.out) le111.out) le143.out) le164.out) le205.out) le248.out) le270.out) le402.out) le425.out) le452.out) le504.out) t528.out) (.inr (Nat.le_refl _))
  have h537 := Held.ran h515 (ran_below b534 _) (Nat.le_trans (Nat.le_trans (Nat.le_trans (Nat.le_trans (Nat.le_trans (Nat.le_trans (Nat.le_trans (Nat.le_trans (Nat.le_trans (Nat.le_trans (Nat.le_trans (Nat.le_trans (Nat.le_trans (Nat.le_trans (le30.out) le45.out) le64.out) le87.out) le111.out) le143.out) le164.out) le205.out) le248.out) le270.out) le402.out) le425.out) le452.out) le504.out) t528.out) (.inr (Nat.le_refl _))
  have h538 := Held.ran h516 (ran_below b534 _) (Nat.le_trans (Nat.le_trans (Nat.le_trans (Nat.le_trans (Nat.le_trans (Nat.le_trans (Nat.le_trans (Nat.le_trans (Nat.le_trans (Nat.le_trans (Nat.le_trans (Nat.le_trans (le64.out) le87.out) le111.out) le143.out) le164.out) le205.out) le248.out) le270.out) le402.out) le425.out) le452.out) le504.out) t528.out) (.inr (Nat.le_refl _))
  have h539 := Held.ran h517 (ran_below b534 _) (Nat.le_trans (Nat.le_trans (Nat.le_trans (Nat.le_trans (Nat.le_trans (Nat.le_trans (Nat.le_trans (Nat.le_trans (Nat.le_trans (Nat.le_trans (Nat.le_trans (le87.out) le111.out) le143.out) le164.out) le205.out) le248.out) le270.out) le402.out) le425.out) le452.out) le504.out) t528.out) (.inr (Nat.le_refl _))
  have h540 := Held.ran h518 (ran_below b534 _) (Nat.le_trans (Nat.le_trans (Nat.le_trans (Nat.le_trans (Nat.le_trans (Nat.le_trans (Nat.le_trans (Nat.le_trans (Nat.le_trans (Nat.le_trans (le111.out) le143.out) le164.out) le205.out) le248.out) le270.out) le402.out) le425.out) le452.out) le504.out) t528.out) (.inr (Nat.le_refl _))
  have h541 := Held.ran h519 (ran_below b534 _) (Nat.le_trans (Nat.le_trans (Nat.le_trans (Nat.le_trans (Nat.le_trans (Nat.le_trans (Nat.le_trans (Nat.le_trans (Nat.le_trans (le143.out) le164.out) le205.out) le248.out) le270.out) le402.out) le425.out) le452.out) le504.out) t528.out) (.inr (Nat.le_refl _))
  have h542 := Held.ran h520 (ran_below b534 _) (Nat.le_trans (Nat.le_trans (Nat.le_trans (Nat.le_trans (Nat.le_trans (Nat.le_trans (Nat.le_trans (Nat.le_trans (le164.out) le205.out) le248.out) le270.out) le402.out) le425.out) le452.out) le504.out) t528.out) (.inr (Nat.le_refl _))
  have h543 := Held.ran h521 (ran_below b534 _) (Nat.le_trans (Nat.le_trans (Nat.le_trans (Nat.le_trans (Nat.le_trans (Nat.le_trans (Nat.le_trans (le205.out) le248.out) le270.out) le402.out) le425.out) le452.out) le504.out) t528.out) (.inr (Nat.le_refl _))
  have h544 := Held.ran h522 (ran_below b534 _) (Nat.le_trans (Nat.le_trans (Nat.le_trans (Nat.le_trans (Nat.le_trans (Nat.le_trans (le248.out) le270.out) le402.out) le425.out) le452.out) le504.out) t528.out) (.inr (Nat.le_refl _))
  have h545 := Held.ran h523 (ran_below b534 _) (Nat.le_trans (Nat.le_trans (Nat.le_trans (Nat.le_trans (le402.out) le425.out) le452.out) le504.out) t528.out) (.inr (Nat.le_refl _))
  have h546 := Held.ran h524 (ran_below b534 _) (Nat.le_trans (Nat.le_trans (le452.out) le504.out) t528.out) (.inr (Nat.le_refl _))
  have h547 := Held.ran h525 (ran_below b534 _) (Nat.le_trans (le504.out) t528.out) (.inr (Nat.le_refl _))
  have h548 := Held.ran h526 (ran_below b534 _) (Nat.le_trans (Nat.le_refl _) t528.out) (.inr (Nat.le_refl _))
  have bel549 : Below w.heap.size w W535 := Below.trans bel527 (Below.mono b534 (Nat.le_trans (Nat.le_trans (Nat.le_trans (Nat.le_trans (Nat.le_trans (Nat.le_trans (Nat.le_trans (Nat.le_trans (Nat.le_trans (Nat.le_trans (Nat.le_trans (Nat.le_trans (Nat.le_trans (Nat.le_trans (Nat.le_trans (le9.out) le30.out) le45.out) le64.out) le87.out) le111.out) le143.out) le164.out) le205.out) le248.out) le270.out) le402.out) le425.out) le452.out) le504.out) t528.out))
  have t550 : Hid (W457.heap.size ≤ W535.heap.size) := Lib.hid (Nat.le_trans t528.out (Below.size b534))
  clear h514 h515 h516 h517 h518 h519 h520 h521 h522 h523 h524 h525 h526 bel527
  clear b534
  clear q530
  clear q531
  clear q532
  clear q533
  go_wp2_with fail
  go_ret
  exact ⟨rfl, bel549⟩
end Go.Proofs.Ytakkehjfdeghoab
