/-
  The walk of the law of PowerOrder.
-/
import Derived.Test.YtlgoopjbjamlmabPower
import Derived.Test.YtlgoopjbjamlmabHeld
namespace Go.Proofs.Ytlgoopjbjamlmab
open Go.RowKit

set_option maxRecDepth 1000000 in
set_option maxHeartbeats 2000000 in
theorem powerOrder_walk (A_aF : Option Addr) (n_aF c_aF : Nat) (z_aF : List Int) (i_aN : Int) (w : World) (h_aF : Row .i64 w A_aF n_aF z_aF) :
    Calls Try.prog 9 #[.slice A_aF n_aF c_aF, .int .i64 i_aN] w fun e w' => e = .returned (.bool true) ∧ Below w.heap.size w w' := by
  have le_aF := RowB.le h_aF
  by_cases big_aF : 1048576 < n_aF
  · go_enter Try.func9, Try.ntmps9
    go_wp2
    go_ret
    exact ⟨rfl, Below.refl _ _⟩
  have hR := powR_le z_aF i_aN
  have H_aF := held_row h_aF
  have t0 : Hid (w.heap.size ≤ w.heap.size) := Lib.hid (Nat.le_refl _)
  have bel0 : Below w.heap.size w w := Below.refl _ _
  go_enter Try.func9, Try.ntmps9
  go_wp2_with fail
  (go_at_call 16; (with_reducible refine (toInt64S_any _ _ _ _ _ (RowB.up (Held.now H_aF) (Nat.le_refl _)) (by omega)).mono ?_); rintro e W2 ⟨A5, c6, rfl, o4, b3⟩)
  have h8 := Held.ran H_aF (ran_below b3 _) (Nat.le_refl _) (.inr (Nat.le_refl _))
  have bel9 : Below w.heap.size w W2 := Below.trans bel0 (Below.mono b3 (Nat.le_refl _))
  have t10 : Hid (w.heap.size ≤ W2.heap.size) := Lib.hid (Nat.le_trans t0.out (Below.size b3))
  have le11 : Hid (w.heap.size ≤ W2.heap.size) := t10
  have t12 : Hid (W2.heap.size ≤ W2.heap.size) := Lib.hid (Nat.le_refl _)
  have fr13 := Own.from o4
  have lt14 := Own.lt o4
  have h15 := held_own o4 lt14
  clear o4
  go_wp2_with fail
  (go_at_call 30; (with_reducible refine (specPower_any _ _ _ _ _ _ (Own.row (Held.now h15)) (Own.cap (Held.now h15))).mono ?_); rintro e W16 ⟨A19, c20, rfl, o18, b17⟩)
  have h22 := Held.ran h8 (ran_below b17 _) (Nat.le_trans (le11.out) t12.out) (.inr (Nat.le_refl _))
  have h23 := Held.ran h15 (ran_below b17 _) (Nat.le_refl _) (.inr (Nat.le_refl _))
  have bel24 : Below w.heap.size w W16 := Below.trans bel9 (Below.mono b17 (Nat.le_trans (le11.out) t12.out))
  have t25 : Hid (W2.heap.size ≤ W16.heap.size) := Lib.hid (Nat.le_trans t12.out (Below.size b17))
  have le26 : Hid (W2.heap.size ≤ W16.heap.size) := t25
  have t27 : Hid (W16.heap.size ≤ W16.heap.size) := Lib.hid (Nat.le_refl _)
  have fr28 := Own.from o18
  have lt29 := Own.lt o18
  have h30 := held_own o18 lt29
  clear o18
  go_wp2_with fail
  (go_at_call 16; (with_reducible refine (toInt64S_any _ _ _ _ _ (RowB.up (Held.now h22) (Nat.le_trans (Nat.le_trans (le11.out) le26.out) t27.out)) (by omega)).mono ?_); rintro e W31 ⟨A34, c35, rfl, o33, b32⟩)
  have h37 := Held.ran h22 (ran_below b32 _) (Nat.le_trans (Nat.le_trans (le11.out) le26.out) t27.out) (.inr (Nat.le_refl _))
  have h38 := Held.ran h23 (ran_below b32 _) (Nat.le_trans (le26.out) t27.out) (.inr (Nat.le_refl _))
  have h39 := Held.ran h30 (ran_below b32 _) (Nat.le_refl _) (.inr (Nat.le_refl _))
  have bel40 : Below w.heap.size w W31 := Below.trans bel24 (Below.mono b32 (Nat.le_trans (Nat.le_trans (le11.out) le26.out) t27.out))
  have t41 : Hid (W16.heap.size ≤ W31.heap.size) := Lib.hid (Nat.le_trans t27.out (Below.size b32))
  have le42 : Hid (W16.heap.size ≤ W31.heap.size) := t41
  have t43 : Hid (W31.heap.size ≤ W31.heap.size) := Lib.hid (Nat.le_refl _)
  have fr44 := Own.from o33
  have lt45 := Own.lt o33
  have h46 := held_own o33 lt45
  clear o33
  go_wp2_with fail
  (go_at_call 31; (with_reducible refine (implPower_any _ _ _ _ _ _ (Own.row (Held.now h46))).mono ?_); rintro e W47 ⟨A50, c51, rfl, o49, b48⟩)
  have h53 := Held.ran h37 (ran_below b48 _) (Nat.le_trans (Nat.le_trans (Nat.le_trans (le11.out) le26.out) le42.out) t43.out) (.inr (Nat.le_refl _))
  have h54 := Held.ran h38 (ran_below b48 _) (Nat.le_trans (Nat.le_trans (le26.out) le42.out) t43.out) (.inr (Nat.le_refl _))
  have h55 := Held.ran h39 (ran_below b48 _) (Nat.le_trans (le42.out) t43.out) (.inr (Nat.le_refl _))
  have h56 := Held.ran h46 (ran_below b48 _) (Nat.le_refl _) (.inr (Nat.le_refl _))
  have bel57 : Below w.heap.size w W47 := Below.trans bel40 (Below.mono b48 (Nat.le_trans (Nat.le_trans (Nat.le_trans (le11.out) le26.out) le42.out) t43.out))
  have t58 : Hid (W31.heap.size ≤ W47.heap.size) := Lib.hid (Nat.le_trans t43.out (Below.size b48))
  have le59 : Hid (W31.heap.size ≤ W47.heap.size) := t58
  have t60 : Hid (W47.heap.size ≤ W47.heap.size) := Lib.hid (Nat.le_refl _)
  have fr61 := Own.from o49
  have lt62 := Own.lt o49
  have h63 := held_own o49 lt62
  clear o49
  go_wp2_with fail
  (go_at_call 18; (with_reducible refine (eqInt64S_any _ _ _ _ _ _ _ (Own.row (Held.now h63)) (Own.row (Held.now h55))).mono ?_); rintro e w' ⟨rfl, m64, rfl⟩)
  have h65 := Held.ran h53 (ran_drewN W47 m64 _) (Nat.le_trans (Nat.le_trans (Nat.le_trans (Nat.le_trans (le11.out) le26.out) le42.out) le59.out) t60.out) (.inr (Nat.le_refl _))
  have h66 := Held.ran h54 (ran_drewN W47 m64 _) (Nat.le_trans (Nat.le_trans (Nat.le_trans (le26.out) le42.out) le59.out) t60.out) (.inr (Nat.le_refl _))
  have h67 := Held.ran h55 (ran_drewN W47 m64 _) (Nat.le_trans (Nat.le_trans (le42.out) le59.out) t60.out) (.inr (Nat.le_refl _))
  have h68 := Held.ran h56 (ran_drewN W47 m64 _) (Nat.le_trans (le59.out) t60.out) (.inr (Nat.le_refl _))
  have h69 := Held.ran h63 (ran_drewN W47 m64 _) (Nat.le_refl _) (.inr (Nat.le_refl _))
  have bel70 : Below w.heap.size w (World.drewN W47 m64) := below_drewN bel57 m64
  have t71 : Hid (W47.heap.size ≤ ((World.drewN W47 m64)).heap.size) := t60
  have le73 : Hid (W47.heap.size ≤ (World.drewN W47 m64).heap.size) := t71
  have t74 : Hid ((World.drewN W47 m64).heap.size ≤ (World.drewN W47 m64).heap.size) := Lib.hid (Nat.le_refl _)
  go_wp2_with fail
  (go_at_call 16; (with_reducible refine (toInt64S_any _ _ _ _ _ (RowB.up (Held.now h65) (Nat.le_trans (Nat.le_trans (Nat.le_trans (Nat.le_trans (le11.out) le26.out) le42.out) le59.out) t71.out)) (by omega)).mono ?_); rintro e W75 ⟨A78, c79, rfl, o77, b76⟩)
  have h81 := Held.ran h65 (ran_below b76 _) (Nat.le_trans (Nat.le_trans (Nat.le_trans (Nat.le_trans (Nat.le_trans (le11.out) le26.out) le42.out) le59.out) le73.out) t74.out) (.inr (Nat.le_refl _))
  have h82 := Held.ran h66 (ran_below b76 _) (Nat.le_trans (Nat.le_trans (Nat.le_trans (Nat.le_trans (le26.out) le42.out) le59.out) le73.out) t74.out) (.inr (Nat.le_refl _))
  have h83 := Held.ran h67 (ran_below b76 _) (Nat.le_trans (Nat.le_trans (Nat.le_trans (le42.out) le59.out) le73.out) t74.out) (.inr (Nat.le_refl _))
  have h84 := Held.ran h68 (ran_below b76 _) (Nat.le_trans (Nat.le_trans (le59.out) le73.out) t74.out) (.inr (Nat.le_refl _))
  have h85 := Held.ran h69 (ran_below b76 _) (Nat.le_trans (le73.out) t74.out) (.inr (Nat.le_refl _))
  have bel86 : Below w.heap.size w W75 := Below.trans bel70 (Below.mono b76 (Nat.le_trans (Nat.le_trans (Nat.le_trans (Nat.le_trans (Nat.le_trans (le11.out) le26.out) le42.out) le59.out) le73.out) t74.out))
  have t87 : Hid ((World.drewN W47 m64).heap.size ≤ W75.heap.size) := Lib.hid (Nat.le_trans t74.out (Below.size b76))
  have le88 : Hid ((World.drewN W47 m64).heap.size ≤ W75.heap.size) := t87
  have t89 : Hid (W75.heap.size ≤ W75.heap.size) := Lib.hid (Nat.le_refl _)
  have fr90 := Own.from o77
  have lt91 := Own.lt o77
  have h92 := held_own o77 lt91
  clear o77
  go_wp2_with fail
  (go_at_call 18; (with_reducible refine (eqInt64S_any _ _ _ _ _ _ _ (Own.row (Held.now h84)) (Own.row (Held.now h92))).mono ?_); rintro e w' ⟨rfl, m93, rfl⟩)
  have h94 := Held.ran h81 (ran_drewN W75 m93 _) (Nat.le_trans (Nat.le_trans (Nat.le_trans (Nat.le_trans (Nat.le_trans (Nat.le_trans (le11.out) le26.out) le42.out) le59.out) le73.out) le88.out) t89.out) (.inr (Nat.le_refl _))
  have h95 := Held.ran h82 (ran_drewN W75 m93 _) (Nat.le_trans (Nat.le_trans (Nat.le_trans (Nat.le_trans (Nat.le_trans (le26.out) le42.out) le59.out) le73.out) le88.out) t89.out) (.inr (Nat.le_refl _))
  have h96 := Held.ran h83 (ran_drewN W75 m93 _) (Nat.le_trans (Nat.le_trans (Nat.le_trans (Nat.le_trans (le42.out) le59.out) le73.out) le88.out) t89.out) (.inr (Nat.le_refl _))
  have h97 := Held.ran h84 (ran_drewN W75 m93 _) (Nat.le_trans (Nat.le_trans (Nat.le_trans (le59.out) le73.out) le88.out) t89.out) (.inr (Nat.le_refl _))
  have h98 := Held.ran h85 (ran_drewN W75 m93 _) (Nat.le_trans (Nat.le_trans (le73.out) le88.out) t89.out) (.inr (Nat.le_refl _))
  have h99 := Held.ran h92 (ran_drewN W75 m93 _) (Nat.le_refl _) (.inr (Nat.le_refl _))
  have bel100 : Below w.heap.size w (World.drewN W75 m93) := below_drewN bel86 m93
  have t101 : Hid (W75.heap.size ≤ ((World.drewN W75 m93)).heap.size) := t89
  go_wp2_with fail
  (go_at_call 21; (with_reducible refine (mark_any _ _ _ 1 1 (by omega) _ _ (Held.now h97) (by omega)).mono ?_); rintro e W104 ⟨rfl, o102, k103⟩)
  have r105 := ran_only k103 fr44 lt45
  have h106 := Held.ran h94 (r105) (Nat.le_trans (Nat.le_trans (Nat.le_trans (Nat.le_trans (Nat.le_trans (Nat.le_trans (le11.out) le26.out) le42.out) le59.out) le73.out) le88.out) t101.out) (.inr (Nat.le_trans (le11.out) le26.out))
  have h107 := Held.ran h95 (r105) (Nat.le_trans (Nat.le_trans (Nat.le_trans (Nat.le_trans (Nat.le_trans (le26.out) le42.out) le59.out) le73.out) le88.out) t101.out) (.inr (le26.out))
  have h108 := Held.ran h96 (r105) (Nat.le_trans (Nat.le_trans (Nat.le_trans (Nat.le_trans (le42.out) le59.out) le73.out) le88.out) t101.out) (.inr (Nat.le_refl _))
  have h109 := Held.ran h98 (r105) (Nat.le_trans (Nat.le_trans (le73.out) le88.out) t101.out) (.inl (Nat.le_refl _))
  have h110 := Held.ran h99 (r105) (Nat.le_trans (Nat.le_refl _) t101.out) (.inl (Nat.le_trans (le59.out) le73.out))
  have bel111 : Below w.heap.size w W104 := Below.trans bel100 (Ran.below r105 (Nat.le_trans (le11.out) le26.out) (Nat.le_trans (Nat.le_trans (Nat.le_trans (Nat.le_trans (Nat.le_trans (Nat.le_trans (le11.out) le26.out) le42.out) le59.out) le73.out) le88.out) t101.out))
  have t112 : Hid (W75.heap.size ≤ W104.heap.size) := Lib.hid (Nat.le_trans t101.out (Ran.size r105))
  have h113 := held_own o102 lt45
  clear o102
  go_wp2_with fail
  (go_at_call 18; (with_reducible refine (eqInt64S_any _ _ _ _ _ _ _ (Own.row (Held.now h109)) (Own.row (Held.now h108))).mono ?_); rintro e w' ⟨rfl, m114, rfl⟩)
  have h115 := Held.ran h106 (ran_drewN W104 m114 _) (Nat.le_trans (Nat.le_trans (Nat.le_trans (Nat.le_trans (Nat.le_trans (Nat.le_trans (le11.out) le26.out) le42.out) le59.out) le73.out) le88.out) t112.out) (.inr (Nat.le_refl _))
  have h116 := Held.ran h107 (ran_drewN W104 m114 _) (Nat.le_trans (Nat.le_trans (Nat.le_trans (Nat.le_trans (Nat.le_trans (le26.out) le42.out) le59.out) le73.out) le88.out) t112.out) (.inr (Nat.le_refl _))
  have h117 := Held.ran h108 (ran_drewN W104 m114 _) (Nat.le_trans (Nat.le_trans (Nat.le_trans (Nat.le_trans (le42.out) le59.out) le73.out) le88.out) t112.out) (.inr (Nat.le_refl _))
  have h118 := Held.ran h113 (ran_drewN W104 m114 _) (Nat.le_trans (Nat.le_trans (Nat.le_trans (le59.out) le73.out) le88.out) t112.out) (.inr (Nat.le_refl _))
  have h119 := Held.ran h109 (ran_drewN W104 m114 _) (Nat.le_trans (Nat.le_trans (le73.out) le88.out) t112.out) (.inr (Nat.le_refl _))
  have h120 := Held.ran h110 (ran_drewN W104 m114 _) (Nat.le_trans (Nat.le_refl _) t112.out) (.inr (Nat.le_refl _))
  have bel121 : Below w.heap.size w (World.drewN W104 m114) := below_drewN bel111 m114
  have t122 : Hid (W75.heap.size ≤ ((World.drewN W104 m114)).heap.size) := t112
  go_wp2_with fail
  (go_at_call 21; (with_reducible refine (mark_any _ _ _ 1 1 (by omega) _ _ (Held.now h119) (by omega)).mono ?_); rintro e W125 ⟨rfl, o123, k124⟩)
  have r126 := ran_only k124 fr61 lt62
  have h127 := Held.ran h115 (r126) (Nat.le_trans (Nat.le_trans (Nat.le_trans (Nat.le_trans (Nat.le_trans (Nat.le_trans (le11.out) le26.out) le42.out) le59.out) le73.out) le88.out) t122.out) (.inr (Nat.le_trans (Nat.le_trans (le11.out) le26.out) le42.out))
  have h128 := Held.ran h116 (r126) (Nat.le_trans (Nat.le_trans (Nat.le_trans (Nat.le_trans (Nat.le_trans (le26.out) le42.out) le59.out) le73.out) le88.out) t122.out) (.inr (Nat.le_trans (le26.out) le42.out))
  have h129 := Held.ran h117 (r126) (Nat.le_trans (Nat.le_trans (Nat.le_trans (Nat.le_trans (le42.out) le59.out) le73.out) le88.out) t122.out) (.inr (le42.out))
  have h130 := Held.ran h118 (r126) (Nat.le_trans (Nat.le_trans (Nat.le_trans (le59.out) le73.out) le88.out) t122.out) (.inr (Nat.le_refl _))
  have h131 := Held.ran h120 (r126) (Nat.le_trans (Nat.le_refl _) t122.out) (.inl (le73.out))
  have bel132 : Below w.heap.size w W125 := Below.trans bel121 (Ran.below r126 (Nat.le_trans (Nat.le_trans (le11.out) le26.out) le42.out) (Nat.le_trans (Nat.le_trans (Nat.le_trans (Nat.le_trans (Nat.le_trans (Nat.le_trans (le11.out) le26.out) le42.out) le59.out) le73.out) le88.out) t122.out))
  have t133 : Hid (W75.heap.size ≤ W125.heap.size) := Lib.hid (Nat.le_trans t122.out (Ran.size r126))
  have h134 := held_own o123 lt62
  clear o123
  go_wp2_with fail
  (go_at_call 22; (with_reducible refine (held_any _ _ _ 1 1 (by omega) _ (Own.row (Held.now h134)) (by omega)).mono ?_); rintro e w' ⟨rfl, rfl⟩)
  have le136 : Hid (W75.heap.size ≤ W125.heap.size) := t133
  have t137 : Hid (W125.heap.size ≤ W125.heap.size) := Lib.hid (Nat.le_refl _)
  go_wp2_with fail
  (go_at_call 16; (with_reducible refine (toInt64S_any _ _ _ _ _ (RowB.up (Held.now h127) (Nat.le_trans (Nat.le_trans (Nat.le_trans (Nat.le_trans (Nat.le_trans (Nat.le_trans (le11.out) le26.out) le42.out) le59.out) le73.out) le88.out) t133.out)) (by omega)).mono ?_); rintro e W138 ⟨A141, c142, rfl, o140, b139⟩)
  have h144 := Held.ran h127 (ran_below b139 _) (Nat.le_trans (Nat.le_trans (Nat.le_trans (Nat.le_trans (Nat.le_trans (Nat.le_trans (Nat.le_trans (le11.out) le26.out) le42.out) le59.out) le73.out) le88.out) le136.out) t137.out) (.inr (Nat.le_refl _))
  have h145 := Held.ran h128 (ran_below b139 _) (Nat.le_trans (Nat.le_trans (Nat.le_trans (Nat.le_trans (Nat.le_trans (Nat.le_trans (le26.out) le42.out) le59.out) le73.out) le88.out) le136.out) t137.out) (.inr (Nat.le_refl _))
  have h146 := Held.ran h129 (ran_below b139 _) (Nat.le_trans (Nat.le_trans (Nat.le_trans (Nat.le_trans (Nat.le_trans (le42.out) le59.out) le73.out) le88.out) le136.out) t137.out) (.inr (Nat.le_refl _))
  have h147 := Held.ran h130 (ran_below b139 _) (Nat.le_trans (Nat.le_trans (Nat.le_trans (Nat.le_trans (le59.out) le73.out) le88.out) le136.out) t137.out) (.inr (Nat.le_refl _))
  have h148 := Held.ran h134 (ran_below b139 _) (Nat.le_trans (Nat.le_trans (Nat.le_trans (le73.out) le88.out) le136.out) t137.out) (.inr (Nat.le_refl _))
  have h149 := Held.ran h131 (ran_below b139 _) (Nat.le_trans (le136.out) t137.out) (.inr (Nat.le_refl _))
  have bel150 : Below w.heap.size w W138 := Below.trans bel132 (Below.mono b139 (Nat.le_trans (Nat.le_trans (Nat.le_trans (Nat.le_trans (Nat.le_trans (Nat.le_trans (Nat.le_trans (le11.out) le26.out) le42.out) le59.out) le73.out) le88.out) le136.out) t137.out))
  have t151 : Hid (W125.heap.size ≤ W138.heap.size) := Lib.hid (Nat.le_trans t137.out (Below.size b139))
  have le152 : Hid (W125.heap.size ≤ W138.heap.size) := t151
  have t153 : Hid (W138.heap.size ≤ W138.heap.size) := Lib.hid (Nat.le_refl _)
  have fr154 := Own.from o140
  have lt155 := Own.lt o140
  have h156 := held_own o140 lt155
  clear o140
  go_wp2_with fail
  (go_at_call 31; (with_reducible refine (implPower_any _ _ _ _ _ _ (Own.row (Held.now h156))).mono ?_); rintro e W157 ⟨A160, c161, rfl, o159, b158⟩)
  have h163 := Held.ran h144 (ran_below b158 _) (Nat.le_trans (Nat.le_trans (Nat.le_trans (Nat.le_trans (Nat.le_trans (Nat.le_trans (Nat.le_trans (Nat.le_trans (le11.out) le26.out) le42.out) le59.out) le73.out) le88.out) le136.out) le152.out) t153.out) (.inr (Nat.le_refl _))
  have h164 := Held.ran h145 (ran_below b158 _) (Nat.le_trans (Nat.le_trans (Nat.le_trans (Nat.le_trans (Nat.le_trans (Nat.le_trans (Nat.le_trans (le26.out) le42.out) le59.out) le73.out) le88.out) le136.out) le152.out) t153.out) (.inr (Nat.le_refl _))
  have h165 := Held.ran h146 (ran_below b158 _) (Nat.le_trans (Nat.le_trans (Nat.le_trans (Nat.le_trans (Nat.le_trans (Nat.le_trans (le42.out) le59.out) le73.out) le88.out) le136.out) le152.out) t153.out) (.inr (Nat.le_refl _))
  have h166 := Held.ran h147 (ran_below b158 _) (Nat.le_trans (Nat.le_trans (Nat.le_trans (Nat.le_trans (Nat.le_trans (le59.out) le73.out) le88.out) le136.out) le152.out) t153.out) (.inr (Nat.le_refl _))
  have h167 := Held.ran h148 (ran_below b158 _) (Nat.le_trans (Nat.le_trans (Nat.le_trans (Nat.le_trans (le73.out) le88.out) le136.out) le152.out) t153.out) (.inr (Nat.le_refl _))
  have h168 := Held.ran h149 (ran_below b158 _) (Nat.le_trans (Nat.le_trans (le136.out) le152.out) t153.out) (.inr (Nat.le_refl _))
  have h169 := Held.ran h156 (ran_below b158 _) (Nat.le_refl _) (.inr (Nat.le_refl _))
  have bel170 : Below w.heap.size w W157 := Below.trans bel150 (Below.mono b158 (Nat.le_trans (Nat.le_trans (Nat.le_trans (Nat.le_trans (Nat.le_trans (Nat.le_trans (Nat.le_trans (Nat.le_trans (le11.out) le26.out) le42.out) le59.out) le73.out) le88.out) le136.out) le152.out) t153.out))
  have t171 : Hid (W138.heap.size ≤ W157.heap.size) := Lib.hid (Nat.le_trans t153.out (Below.size b158))
  have le172 : Hid (W138.heap.size ≤ W157.heap.size) := t171
  have t173 : Hid (W157.heap.size ≤ W157.heap.size) := Lib.hid (Nat.le_refl _)
  have fr174 := Own.from o159
  have lt175 := Own.lt o159
  have h176 := held_own o159 lt175
  clear o159
  go_wp2_with fail
  (go_at_call 18; (with_reducible refine (eqInt64S_any _ _ _ _ _ _ _ (Own.row (Held.now h176)) (Own.row (Held.now h165))).mono ?_); rintro e w' ⟨rfl, m177, rfl⟩)
  have h178 := Held.ran h163 (ran_drewN W157 m177 _) (Nat.le_trans (Nat.le_trans (Nat.le_trans (Nat.le_trans (Nat.le_trans (Nat.le_trans (Nat.le_trans (Nat.le_trans (Nat.le_trans (le11.out) le26.out) le42.out) le59.out) le73.out) le88.out) le136.out) le152.out) le172.out) t173.out) (.inr (Nat.le_refl _))
  have h179 := Held.ran h164 (ran_drewN W157 m177 _) (Nat.le_trans (Nat.le_trans (Nat.le_trans (Nat.le_trans (Nat.le_trans (Nat.le_trans (Nat.le_trans (Nat.le_trans (le26.out) le42.out) le59.out) le73.out) le88.out) le136.out) le152.out) le172.out) t173.out) (.inr (Nat.le_refl _))
  have h180 := Held.ran h165 (ran_drewN W157 m177 _) (Nat.le_trans (Nat.le_trans (Nat.le_trans (Nat.le_trans (Nat.le_trans (Nat.le_trans (Nat.le_trans (le42.out) le59.out) le73.out) le88.out) le136.out) le152.out) le172.out) t173.out) (.inr (Nat.le_refl _))
  have h181 := Held.ran h166 (ran_drewN W157 m177 _) (Nat.le_trans (Nat.le_trans (Nat.le_trans (Nat.le_trans (Nat.le_trans (Nat.le_trans (le59.out) le73.out) le88.out) le136.out) le152.out) le172.out) t173.out) (.inr (Nat.le_refl _))
  have h182 := Held.ran h167 (ran_drewN W157 m177 _) (Nat.le_trans (Nat.le_trans (Nat.le_trans (Nat.le_trans (Nat.le_trans (le73.out) le88.out) le136.out) le152.out) le172.out) t173.out) (.inr (Nat.le_refl _))
  have h183 := Held.ran h168 (ran_drewN W157 m177 _) (Nat.le_trans (Nat.le_trans (Nat.le_trans (le136.out) le152.out) le172.out) t173.out) (.inr (Nat.le_refl _))
  have h184 := Held.ran h169 (ran_drewN W157 m177 _) (Nat.le_trans (le172.out) t173.out) (.inr (Nat.le_refl _))
  have h185 := Held.ran h176 (ran_drewN W157 m177 _) (Nat.le_refl _) (.inr (Nat.le_refl _))
  have bel186 : Below w.heap.size w (World.drewN W157 m177) := below_drewN bel170 m177
  have t187 : Hid (W157.heap.size ≤ ((World.drewN W157 m177)).heap.size) := t173
  go_wp2_with fail
  (go_at_call 22; (with_reducible refine (held_any _ _ _ 1 1 (by omega) _ (Own.row (Held.now h182)) (by omega)).mono ?_); rintro e w' ⟨rfl, rfl⟩)
  go_wp2_with fail
  go_ret
  exact ⟨rfl, bel186⟩
end Go.Proofs.Ytlgoopjbjamlmab
