/-
  The walk of the law of CyclesOf.
-/
import Derived.Test.YtlgoopjbjamlmabCycLaw
namespace Go.Proofs.Ytlgoopjbjamlmab
open Go.RowKit

set_option maxRecDepth 1000000 in
set_option maxHeartbeats 2000000 in
theorem cyclesOf_walk (A_aF : Option Addr) (n_aF c_aF : Nat) (z_aF : List Int) (w : World) (h_aF : Row .i64 w A_aF n_aF z_aF) :
    Calls Try.prog 8 #[.slice A_aF n_aF c_aF] w fun e w' => e = .returned (.bool true) ∧ Below w.heap.size w w' := by
  have le_aF := RowB.le h_aF
  by_cases big_aF : 1048576 < n_aF
  · go_enter Try.func8, Try.ntmps8
    go_wp2
    go_ret
    exact ⟨rfl, Below.refl _ _⟩
  have H_aF := held_row h_aF
  have t0 : Hid (w.heap.size ≤ w.heap.size) := Lib.hid (Nat.le_refl _)
  have bel0 : Below w.heap.size w w := Below.refl _ _
  go_enter Try.func8, Try.ntmps8
  go_wp2_with fail
  (go_at_call 16; (with_reducible refine (toInt64S_any _ _ _ _ _ (RowB.up (Held.now H_aF) (Nat.le_refl _)) (by omega)).mono ?_); rintro e W2 ⟨A5, c6, rfl, o4, b3⟩)
  have h8 := Held.ran H_aF (ran_below b3 _) (Nat.le_refl _) (.inr (Nat.le_refl _))
  have bel9 : Below w.heap.size w W2 := Below.trans bel0 (Below.mono b3 (Nat.le_refl _))
  have t10 : Hid (w.heap.size ≤ W2.heap.size) := Lib.hid (Nat.le_trans t0.out (Below.size b3))
  have le11 : Hid (w.heap.size ≤ W2.heap.size) := t10
  have t12 : Hid (W2.heap.size ≤ W2.heap.size) := Lib.hid (Nat.le_refl _)
  have fr13 := Own.from o4
  have lt14 := Own.lt o4
  have h15 := held_own o4 lt14
  clear o4
  go_wp2_with fail
  (go_at_call 25; (with_reducible refine (specCyclesOf_any _ _ _ _ _ (Own.row (Held.now h15)) (Own.cap (Held.now h15))).mono ?_); rintro e W16 ⟨A19, c20, L21, rfl, o18, b17⟩)
  have h22 := Held.ran h8 (ran_below b17 _) (Nat.le_trans (le11.out) t12.out) (.inr (Nat.le_refl _))
  have h23 := Held.ran h15 (ran_below b17 _) (Nat.le_refl _) (.inr (Nat.le_refl _))
  have bel24 : Below w.heap.size w W16 := Below.trans bel9 (Below.mono b17 (Nat.le_trans (le11.out) t12.out))
  have t25 : Hid (W2.heap.size ≤ W16.heap.size) := Lib.hid (Nat.le_trans t12.out (Below.size b17))
  have le26 : Hid (W2.heap.size ≤ W16.heap.size) := t25
  have t27 : Hid (W16.heap.size ≤ W16.heap.size) := Lib.hid (Nat.le_refl _)
  have fr28 := Own2.from o18
  have lt29 := Own2.lt o18
  have olt30 := Own2.olt o18
  have h31 := held_own2 o18 lt29 olt30
  have ln32 : (lens L21).sum ≤ 1000000 := by rw [Own2.lens o18]; exact cycR_total _
  clear o18
  go_wp2_with fail
  (go_at_call 16; (with_reducible refine (toInt64S_any _ _ _ _ _ (RowB.up (Held.now h22) (Nat.le_trans (Nat.le_trans (le11.out) le26.out) t27.out)) (by omega)).mono ?_); rintro e W33 ⟨A36, c37, rfl, o35, b34⟩)
  have h39 := Held.ran h22 (ran_below b34 _) (Nat.le_trans (Nat.le_trans (le11.out) le26.out) t27.out) (.inr (Nat.le_refl _))
  have h40 := Held.ran h23 (ran_below b34 _) (Nat.le_trans (le26.out) t27.out) (.inr (Nat.le_refl _))
  have h41 := Held.ran h31 (ran_below b34 _) (Nat.le_refl _) (.inr (Nat.le_refl _))
  have bel42 : Below w.heap.size w W33 := Below.trans bel24 (Below.mono b34 (Nat.le_trans (Nat.le_trans (le11.out) le26.out) t27.out))
  have t43 : Hid (W16.heap.size ≤ W33.heap.size) := Lib.hid (Nat.le_trans t27.out (Below.size b34))
  have le44 : Hid (W16.heap.size ≤ W33.heap.size) := t43
  have t45 : Hid (W33.heap.size ≤ W33.heap.size) := Lib.hid (Nat.le_refl _)
  have fr46 := Own.from o35
  have lt47 := Own.lt o35
  have h48 := held_own o35 lt47
  clear o35
  go_wp2_with fail
  (go_at_call 26; (with_reducible refine (implCyclesOf_any _ _ _ _ _ (Own.row (Held.now h48))).mono ?_); rintro e W49 ⟨A52, c53, L54, rfl, o51, b50⟩)
  have h55 := Held.ran h39 (ran_below b50 _) (Nat.le_trans (Nat.le_trans (Nat.le_trans (le11.out) le26.out) le44.out) t45.out) (.inr (Nat.le_refl _))
  have h56 := Held.ran h40 (ran_below b50 _) (Nat.le_trans (Nat.le_trans (le26.out) le44.out) t45.out) (.inr (Nat.le_refl _))
  have h57 := Held.ran h41 (ran_below b50 _) (Nat.le_trans (le44.out) t45.out) (.inr (Nat.le_refl _))
  have h58 := Held.ran h48 (ran_below b50 _) (Nat.le_refl _) (.inr (Nat.le_refl _))
  have bel59 : Below w.heap.size w W49 := Below.trans bel42 (Below.mono b50 (Nat.le_trans (Nat.le_trans (Nat.le_trans (le11.out) le26.out) le44.out) t45.out))
  have t60 : Hid (W33.heap.size ≤ W49.heap.size) := Lib.hid (Nat.le_trans t45.out (Below.size b50))
  have le61 : Hid (W33.heap.size ≤ W49.heap.size) := t60
  have t62 : Hid (W49.heap.size ≤ W49.heap.size) := Lib.hid (Nat.le_refl _)
  have fr63 := Own2.from o51
  have lt64 := Own2.lt o51
  have olt65 := Own2.olt o51
  have h66 := held_own2 o51 lt64 olt65
  have ln67 : (lens L54).sum ≤ 1000000 := by rw [Own2.lens o51]; exact cycR_total _
  clear o51
  go_wp2_with fail
  (go_at_call 27; (with_reducible refine (eqInt64SS_any _ _ _ _ _ _ _ (Own2.row (Held.now h66)) (Own2.row (Held.now h57))).mono ?_); rintro e w' ⟨rfl, m68, rfl⟩)
  have h69 := Held.ran h55 (ran_drewN W49 m68 _) (Nat.le_trans (Nat.le_trans (Nat.le_trans (Nat.le_trans (le11.out) le26.out) le44.out) le61.out) t62.out) (.inr (Nat.le_refl _))
  have h70 := Held.ran h56 (ran_drewN W49 m68 _) (Nat.le_trans (Nat.le_trans (Nat.le_trans (le26.out) le44.out) le61.out) t62.out) (.inr (Nat.le_refl _))
  have h71 := Held.ran h57 (ran_drewN W49 m68 _) (Nat.le_trans (Nat.le_trans (le44.out) le61.out) t62.out) (.inr (Nat.le_refl _))
  have h72 := Held.ran h58 (ran_drewN W49 m68 _) (Nat.le_trans (le61.out) t62.out) (.inr (Nat.le_refl _))
  have h73 := Held.ran h66 (ran_drewN W49 m68 _) (Nat.le_refl _) (.inr (Nat.le_refl _))
  have bel74 : Below w.heap.size w (World.drewN W49 m68) := below_drewN bel59 m68
  have t75 : Hid (W49.heap.size ≤ ((World.drewN W49 m68)).heap.size) := t62
  have le77 : Hid (W49.heap.size ≤ (World.drewN W49 m68).heap.size) := t75
  have t78 : Hid ((World.drewN W49 m68).heap.size ≤ (World.drewN W49 m68).heap.size) := Lib.hid (Nat.le_refl _)
  go_wp2_with fail
  (go_at_call 16; (with_reducible refine (toInt64S_any _ _ _ _ _ (RowB.up (Held.now h69) (Nat.le_trans (Nat.le_trans (Nat.le_trans (Nat.le_trans (le11.out) le26.out) le44.out) le61.out) t75.out)) (by omega)).mono ?_); rintro e W79 ⟨A82, c83, rfl, o81, b80⟩)
  have h85 := Held.ran h69 (ran_below b80 _) (Nat.le_trans (Nat.le_trans (Nat.le_trans (Nat.le_trans (Nat.le_trans (le11.out) le26.out) le44.out) le61.out) le77.out) t78.out) (.inr (Nat.le_refl _))
  have h86 := Held.ran h70 (ran_below b80 _) (Nat.le_trans (Nat.le_trans (Nat.le_trans (Nat.le_trans (le26.out) le44.out) le61.out) le77.out) t78.out) (.inr (Nat.le_refl _))
  have h87 := Held.ran h71 (ran_below b80 _) (Nat.le_trans (Nat.le_trans (Nat.le_trans (le44.out) le61.out) le77.out) t78.out) (.inr (Nat.le_refl _))
  have h88 := Held.ran h72 (ran_below b80 _) (Nat.le_trans (Nat.le_trans (le61.out) le77.out) t78.out) (.inr (Nat.le_refl _))
  have h89 := Held.ran h73 (ran_below b80 _) (Nat.le_trans (le77.out) t78.out) (.inr (Nat.le_refl _))
  have bel90 : Below w.heap.size w W79 := Below.trans bel74 (Below.mono b80 (Nat.le_trans (Nat.le_trans (Nat.le_trans (Nat.le_trans (Nat.le_trans (le11.out) le26.out) le44.out) le61.out) le77.out) t78.out))
  have t91 : Hid ((World.drewN W49 m68).heap.size ≤ W79.heap.size) := Lib.hid (Nat.le_trans t78.out (Below.size b80))
  have le92 : Hid ((World.drewN W49 m68).heap.size ≤ W79.heap.size) := t91
  have t93 : Hid (W79.heap.size ≤ W79.heap.size) := Lib.hid (Nat.le_refl _)
  have fr94 := Own.from o81
  have lt95 := Own.lt o81
  have h96 := held_own o81 lt95
  clear o81
  go_wp2_with fail
  (go_at_call 18; (with_reducible refine (eqInt64S_any _ _ _ _ _ _ _ (Own.row (Held.now h88)) (Own.row (Held.now h96))).mono ?_); rintro e w' ⟨rfl, m97, rfl⟩)
  have h98 := Held.ran h85 (ran_drewN W79 m97 _) (Nat.le_trans (Nat.le_trans (Nat.le_trans (Nat.le_trans (Nat.le_trans (Nat.le_trans (le11.out) le26.out) le44.out) le61.out) le77.out) le92.out) t93.out) (.inr (Nat.le_refl _))
  have h99 := Held.ran h86 (ran_drewN W79 m97 _) (Nat.le_trans (Nat.le_trans (Nat.le_trans (Nat.le_trans (Nat.le_trans (le26.out) le44.out) le61.out) le77.out) le92.out) t93.out) (.inr (Nat.le_refl _))
  have h100 := Held.ran h87 (ran_drewN W79 m97 _) (Nat.le_trans (Nat.le_trans (Nat.le_trans (Nat.le_trans (le44.out) le61.out) le77.out) le92.out) t93.out) (.inr (Nat.le_refl _))
  have h101 := Held.ran h88 (ran_drewN W79 m97 _) (Nat.le_trans (Nat.le_trans (Nat.le_trans (le61.out) le77.out) le92.out) t93.out) (.inr (Nat.le_refl _))
  have h102 := Held.ran h89 (ran_drewN W79 m97 _) (Nat.le_trans (Nat.le_trans (le77.out) le92.out) t93.out) (.inr (Nat.le_refl _))
  have h103 := Held.ran h96 (ran_drewN W79 m97 _) (Nat.le_refl _) (.inr (Nat.le_refl _))
  have bel104 : Below w.heap.size w (World.drewN W79 m97) := below_drewN bel90 m97
  have t105 : Hid (W79.heap.size ≤ ((World.drewN W79 m97)).heap.size) := t93
  go_wp2_with fail
  (go_at_call 21; (with_reducible refine (mark_any _ _ _ 1 1 (by omega) _ _ (Held.now h101) (by omega)).mono ?_); rintro e W108 ⟨rfl, o106, k107⟩)
  have r109 := ran_only k107 fr46 lt47
  have h110 := Held.ran h98 (r109) (Nat.le_trans (Nat.le_trans (Nat.le_trans (Nat.le_trans (Nat.le_trans (Nat.le_trans (le11.out) le26.out) le44.out) le61.out) le77.out) le92.out) t105.out) (.inr (Nat.le_trans (le11.out) le26.out))
  have h111 := Held.ran h99 (r109) (Nat.le_trans (Nat.le_trans (Nat.le_trans (Nat.le_trans (Nat.le_trans (le26.out) le44.out) le61.out) le77.out) le92.out) t105.out) (.inr (le26.out))
  have h112 := Held.ran h100 (r109) (Nat.le_trans (Nat.le_trans (Nat.le_trans (Nat.le_trans (le44.out) le61.out) le77.out) le92.out) t105.out) (.inr (Nat.le_refl _))
  have h113 := Held.ran h102 (r109) (Nat.le_trans (Nat.le_trans (le77.out) le92.out) t105.out) (.inl (Nat.le_refl _))
  have h114 := Held.ran h103 (r109) (Nat.le_trans (Nat.le_refl _) t105.out) (.inl (Nat.le_trans (le61.out) le77.out))
  have bel115 : Below w.heap.size w W108 := Below.trans bel104 (Ran.below r109 (Nat.le_trans (le11.out) le26.out) (Nat.le_trans (Nat.le_trans (Nat.le_trans (Nat.le_trans (Nat.le_trans (Nat.le_trans (le11.out) le26.out) le44.out) le61.out) le77.out) le92.out) t105.out))
  have t116 : Hid (W79.heap.size ≤ W108.heap.size) := Lib.hid (Nat.le_trans t105.out (Ran.size r109))
  have h117 := held_own o106 lt47
  clear o106
  go_wp2_with fail
  (go_at_call 27; (with_reducible refine (eqInt64SS_any _ _ _ _ _ _ _ (Own2.row (Held.now h113)) (Own2.row (Held.now h112))).mono ?_); rintro e w' ⟨rfl, m118, rfl⟩)
  have h119 := Held.ran h110 (ran_drewN W108 m118 _) (Nat.le_trans (Nat.le_trans (Nat.le_trans (Nat.le_trans (Nat.le_trans (Nat.le_trans (le11.out) le26.out) le44.out) le61.out) le77.out) le92.out) t116.out) (.inr (Nat.le_refl _))
  have h120 := Held.ran h111 (ran_drewN W108 m118 _) (Nat.le_trans (Nat.le_trans (Nat.le_trans (Nat.le_trans (Nat.le_trans (le26.out) le44.out) le61.out) le77.out) le92.out) t116.out) (.inr (Nat.le_refl _))
  have h121 := Held.ran h112 (ran_drewN W108 m118 _) (Nat.le_trans (Nat.le_trans (Nat.le_trans (Nat.le_trans (le44.out) le61.out) le77.out) le92.out) t116.out) (.inr (Nat.le_refl _))
  have h122 := Held.ran h117 (ran_drewN W108 m118 _) (Nat.le_trans (Nat.le_trans (Nat.le_trans (le61.out) le77.out) le92.out) t116.out) (.inr (Nat.le_refl _))
  have h123 := Held.ran h113 (ran_drewN W108 m118 _) (Nat.le_trans (Nat.le_trans (le77.out) le92.out) t116.out) (.inr (Nat.le_refl _))
  have h124 := Held.ran h114 (ran_drewN W108 m118 _) (Nat.le_trans (Nat.le_refl _) t116.out) (.inr (Nat.le_refl _))
  have bel125 : Below w.heap.size w (World.drewN W108 m118) := below_drewN bel115 m118
  have t126 : Hid (W79.heap.size ≤ ((World.drewN W108 m118)).heap.size) := t116
  go_wp2_with fail
  (go_at_call 28; (with_reducible refine (mark2_any _ _ _ 1 1 (by omega) _ _ _ (Held.now h123) (by omega)).mono ?_); rintro e W129 ⟨rfl, o127, k128⟩)
  have r130 := ran_onlyL k128 fr63 lt64
  have h131 := Held.ran h119 (r130) (Nat.le_trans (Nat.le_trans (Nat.le_trans (Nat.le_trans (Nat.le_trans (Nat.le_trans (le11.out) le26.out) le44.out) le61.out) le77.out) le92.out) t126.out) (.inr (Nat.le_trans (Nat.le_trans (le11.out) le26.out) le44.out))
  have h132 := Held.ran h120 (r130) (Nat.le_trans (Nat.le_trans (Nat.le_trans (Nat.le_trans (Nat.le_trans (le26.out) le44.out) le61.out) le77.out) le92.out) t126.out) (.inr (Nat.le_trans (le26.out) le44.out))
  have h133 := Held.ran h121 (r130) (Nat.le_trans (Nat.le_trans (Nat.le_trans (Nat.le_trans (le44.out) le61.out) le77.out) le92.out) t126.out) (.inr (le44.out))
  have h134 := Held.ran h122 (r130) (Nat.le_trans (Nat.le_trans (Nat.le_trans (le61.out) le77.out) le92.out) t126.out) (.inr (Nat.le_refl _))
  have h135 := Held.ran h124 (r130) (Nat.le_trans (Nat.le_refl _) t126.out) (.inl (le77.out))
  have bel136 : Below w.heap.size w W129 := Below.trans bel125 (Ran.below r130 (Nat.le_trans (Nat.le_trans (le11.out) le26.out) le44.out) (Nat.le_trans (Nat.le_trans (Nat.le_trans (Nat.le_trans (Nat.le_trans (Nat.le_trans (le11.out) le26.out) le44.out) le61.out) le77.out) le92.out) t126.out))
  have t137 : Hid (W79.heap.size ≤ W129.heap.size) := Lib.hid (Nat.le_trans t126.out (Ran.size r130))
  have h138 := held_own2 o127 lt64 olt65
  clear o127
  go_wp2_with fail
  (go_at_call 29; (with_reducible refine (held2_any _ _ _ 1 1 (by omega) _ _ (Own2.row (Held.now h138)) (by omega)).mono ?_); rintro e w' ⟨rfl, rfl⟩)
  have le140 : Hid (W79.heap.size ≤ W129.heap.size) := t137
  have t141 : Hid (W129.heap.size ≤ W129.heap.size) := Lib.hid (Nat.le_refl _)
  go_wp2_with fail
  (go_at_call 16; (with_reducible refine (toInt64S_any _ _ _ _ _ (RowB.up (Held.now h131) (Nat.le_trans (Nat.le_trans (Nat.le_trans (Nat.le_trans (Nat.le_trans (Nat.le_trans (le11.out) le26.out) le44.out) le61.out) le77.out) le92.out) t137.out)) (by omega)).mono ?_); rintro e W142 ⟨A145, c146, rfl, o144, b143⟩)
  have h148 := Held.ran h131 (ran_below b143 _) (Nat.le_trans (Nat.le_trans (Nat.le_trans (Nat.le_trans (Nat.le_trans (Nat.le_trans (Nat.le_trans (le11.out) le26.out) le44.out) le61.out) le77.out) le92.out) le140.out) t141.out) (.inr (Nat.le_refl _))
  have h149 := Held.ran h132 (ran_below b143 _) (Nat.le_trans (Nat.le_trans (Nat.le_trans (Nat.le_trans (Nat.le_trans (Nat.le_trans (le26.out) le44.out) le61.out) le77.out) le92.out) le140.out) t141.out) (.inr (Nat.le_refl _))
  have h150 := Held.ran h133 (ran_below b143 _) (Nat.le_trans (Nat.le_trans (Nat.le_trans (Nat.le_trans (Nat.le_trans (le44.out) le61.out) le77.out) le92.out) le140.out) t141.out) (.inr (Nat.le_refl _))
  have h151 := Held.ran h134 (ran_below b143 _) (Nat.le_trans (Nat.le_trans (Nat.le_trans (Nat.le_trans (le61.out) le77.out) le92.out) le140.out) t141.out) (.inr (Nat.le_refl _))
  have h152 := Held.ran h138 (ran_below b143 _) (Nat.le_trans (Nat.le_trans (Nat.le_trans (le77.out) le92.out) le140.out) t141.out) (.inr (Nat.le_refl _))
  have h153 := Held.ran h135 (ran_below b143 _) (Nat.le_trans (le140.out) t141.out) (.inr (Nat.le_refl _))
  have bel154 : Below w.heap.size w W142 := Below.trans bel136 (Below.mono b143 (Nat.le_trans (Nat.le_trans (Nat.le_trans (Nat.le_trans (Nat.le_trans (Nat.le_trans (Nat.le_trans (le11.out) le26.out) le44.out) le61.out) le77.out) le92.out) le140.out) t141.out))
  have t155 : Hid (W129.heap.size ≤ W142.heap.size) := Lib.hid (Nat.le_trans t141.out (Below.size b143))
  have le156 : Hid (W129.heap.size ≤ W142.heap.size) := t155
  have t157 : Hid (W142.heap.size ≤ W142.heap.size) := Lib.hid (Nat.le_refl _)
  have fr158 := Own.from o144
  have lt159 := Own.lt o144
  have h160 := held_own o144 lt159
  clear o144
  go_wp2_with fail
  (go_at_call 26; (with_reducible refine (implCyclesOf_any _ _ _ _ _ (Own.row (Held.now h160))).mono ?_); rintro e W161 ⟨A164, c165, L166, rfl, o163, b162⟩)
  have h167 := Held.ran h148 (ran_below b162 _) (Nat.le_trans (Nat.le_trans (Nat.le_trans (Nat.le_trans (Nat.le_trans (Nat.le_trans (Nat.le_trans (Nat.le_trans (le11.out) le26.out) le44.out) le61.out) le77.out) le92.out) le140.out) le156.out) t157.out) (.inr (Nat.le_refl _))
  have h168 := Held.ran h149 (ran_below b162 _) (Nat.le_trans (Nat.le_trans (Nat.le_trans (Nat.le_trans (Nat.le_trans (Nat.le_trans (Nat.le_trans (le26.out) le44.out) le61.out) le77.out) le92.out) le140.out) le156.out) t157.out) (.inr (Nat.le_refl _))
  have h169 := Held.ran h150 (ran_below b162 _) (Nat.le_trans (Nat.le_trans (Nat.le_trans (Nat.le_trans (Nat.le_trans (Nat.le_trans (le44.out) le61.out) le77.out) le92.out) le140.out) le156.out) t157.out) (.inr (Nat.le_refl _))
  have h170 := Held.ran h151 (ran_below b162 _) (Nat.le_trans (Nat.le_trans (Nat.le_trans (Nat.le_trans (Nat.le_trans (le61.out) le77.out) le92.out) le140.out) le156.out) t157.out) (.inr (Nat.le_refl _))
  have h171 := Held.ran h152 (ran_below b162 _) (Nat.le_trans (Nat.le_trans (Nat.le_trans (Nat.le_trans (le77.out) le92.out) le140.out) le156.out) t157.out) (.inr (Nat.le_refl _))
  have h172 := Held.ran h153 (ran_below b162 _) (Nat.le_trans (Nat.le_trans (le140.out) le156.out) t157.out) (.inr (Nat.le_refl _))
  have h173 := Held.ran h160 (ran_below b162 _) (Nat.le_refl _) (.inr (Nat.le_refl _))
  have bel174 : Below w.heap.size w W161 := Below.trans bel154 (Below.mono b162 (Nat.le_trans (Nat.le_trans (Nat.le_trans (Nat.le_trans (Nat.le_trans (Nat.le_trans (Nat.le_trans (Nat.le_trans (le11.out) le26.out) le44.out) le61.out) le77.out) le92.out) le140.out) le156.out) t157.out))
  have t175 : Hid (W142.heap.size ≤ W161.heap.size) := Lib.hid (Nat.le_trans t157.out (Below.size b162))
  have le176 : Hid (W142.heap.size ≤ W161.heap.size) := t175
  have t177 : Hid (W161.heap.size ≤ W161.heap.size) := Lib.hid (Nat.le_refl _)
  have fr178 := Own2.from o163
  have lt179 := Own2.lt o163
  have olt180 := Own2.olt o163
  have h181 := held_own2 o163 lt179 olt180
  have ln182 : (lens L166).sum ≤ 1000000 := by rw [Own2.lens o163]; exact cycR_total _
  clear o163
  go_wp2_with fail
  (go_at_call 27; (with_reducible refine (eqInt64SS_any _ _ _ _ _ _ _ (Own2.row (Held.now h181)) (Own2.row (Held.now h169))).mono ?_); rintro e w' ⟨rfl, m183, rfl⟩)
  have h184 := Held.ran h167 (ran_drewN W161 m183 _) (Nat.le_trans (Nat.le_trans (Nat.le_trans (Nat.le_trans (Nat.le_trans (Nat.le_trans (Nat.le_trans (Nat.le_trans (Nat.le_trans (le11.out) le26.out) le44.out) le61.out) le77.out) le92.out) le140.out) le156.out) le176.out) t177.out) (.inr (Nat.le_refl _))
  have h185 := Held.ran h168 (ran_drewN W161 m183 _) (Nat.le_trans (Nat.le_trans (Nat.le_trans (Nat.le_trans (Nat.le_trans (Nat.le_trans (Nat.le_trans (Nat.le_trans (le26.out) le44.out) le61.out) le77.out) le92.out) le140.out) le156.out) le176.out) t177.out) (.inr (Nat.le_refl _))
  have h186 := Held.ran h169 (ran_drewN W161 m183 _) (Nat.le_trans (Nat.le_trans (Nat.le_trans (Nat.le_trans (Nat.le_trans (Nat.le_trans (Nat.le_trans (le44.out) le61.out) le77.out) le92.out) le140.out) le156.out) le176.out) t177.out) (.inr (Nat.le_refl _))
  have h187 := Held.ran h170 (ran_drewN W161 m183 _) (Nat.le_trans (Nat.le_trans (Nat.le_trans (Nat.le_trans (Nat.le_trans (Nat.le_trans (le61.out) le77.out) le92.out) le140.out) le156.out) le176.out) t177.out) (.inr (Nat.le_refl _))
  have h188 := Held.ran h171 (ran_drewN W161 m183 _) (Nat.le_trans (Nat.le_trans (Nat.le_trans (Nat.le_trans (Nat.le_trans (le77.out) le92.out) le140.out) le156.out) le176.out) t177.out) (.inr (Nat.le_refl _))
  have h189 := Held.ran h172 (ran_drewN W161 m183 _) (Nat.le_trans (Nat.le_trans (Nat.le_trans (le140.out) le156.out) le176.out) t177.out) (.inr (Nat.le_refl _))
  have h190 := Held.ran h173 (ran_drewN W161 m183 _) (Nat.le_trans (le176.out) t177.out) (.inr (Nat.le_refl _))
  have h191 := Held.ran h181 (ran_drewN W161 m183 _) (Nat.le_refl _) (.inr (Nat.le_refl _))
  have bel192 : Below w.heap.size w (World.drewN W161 m183) := below_drewN bel174 m183
  have t193 : Hid (W161.heap.size ≤ ((World.drewN W161 m183)).heap.size) := t177
  go_wp2_with fail
  (go_at_call 29; (with_reducible refine (held2_any _ _ _ 1 1 (by omega) _ _ (Own2.row (Held.now h188)) (by omega)).mono ?_); rintro e w' ⟨rfl, rfl⟩)
  go_wp2_with fail
  go_ret
  exact ⟨rfl, bel192⟩
end Go.Proofs.Ytlgoopjbjamlmab
