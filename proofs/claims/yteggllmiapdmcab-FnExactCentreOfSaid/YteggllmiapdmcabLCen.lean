/-
  The walk of the law of CentreOf.
-/
import Derived.Test.YteggllmiapdmcabGC
import Derived.Test.YteggllmiapdmcabT2
import Derived.Test.YteggllmiapdmcabHChain
import Derived.Test.YteggllmiapdmcabLast
import Derived.Test.YteggllmiapdmcabGp
import Derived.Test.YteggllmiapdmcabEqB
import Derived.Deep.RegionHeld3
namespace Go.Proofs.Yteggllmiapdmcab
open Go.RowKit

set_option maxRecDepth 1000000 in
set_option maxHeartbeats 4000000 in
theorem cen_walk (x_aG : Gp) (A_aG : Option Addr) (n_aG c_aG : Nat) (w : World) (h_aG : Rows2 w.heap.size w A_aG n_aG x_aG.G) :
    Calls Try.prog 6 #[gpV x_aG A_aG n_aG c_aG] w fun e w' => e = .returned (.bool true) ∧ Below w.heap.size w w' := by
  have hrl := cenR_len x_aG.G
  have H_aG := held_row2 h_aG
  have t0 : Hid (w.heap.size ≤ w.heap.size) := Lib.hid (Nat.le_refl _)
  have bel0 : Below w.heap.size w w := Below.refl _ _
  obtain ⟨W1, hW2⟩ : ∃ W1, W1 = w.alloc (.cells #[.slice A_aG n_aG c_aG] 24) := ⟨_, rfl⟩
  have be3 : Below w.heap.size w W1 := by rw [hW2]; exact (Below.refl _ _).alloc (Nat.le_refl _) _
  have bk4 : Blk W1 w.heap.size #[.slice A_aG n_aG c_aG] 24 := by rw [hW2]; exact Blk.new _ _ _
  have lt5 : Hid (w.heap.size < W1.heap.size) := Lib.hid (Blk.lt bk4)
  have h6 := Held.ran H_aG (ran_below be3 _) (Nat.le_refl _) (.inr (Nat.le_refl _))
  have bel7 : Below w.heap.size w W1 := Below.trans bel0 (Below.mono be3 (Nat.le_refl _))
  have t8 : Hid (w.heap.size ≤ W1.heap.size) := Lib.hid (Nat.le_trans t0.out (Below.size be3))
  clear H_aG bel0
  have le9 : Hid (w.heap.size ≤ W1.heap.size) := t8
  have t10 : Hid (W1.heap.size ≤ W1.heap.size) := Lib.hid (Nat.le_refl _)
  have h11 := held_blk bk4 (Nat.le_refl _) lt5.out
  clear bk4 be3
  go_enter Try.func6, Try.ntmps6
  go_wp2_with fail
  rw [show w.alloc (.cells #[.slice A_aG n_aG c_aG] 24) = W1 from hW2.symm]
  clear hW2
  (go_at_call 14; (with_reducible refine (szGroup_any x_aG _ _ _ 1048576 _ (Rows2.up (Held.now h6) (Nat.le_trans (le9.out) t10.out)) (by omega) (by omega) (Nat.le_refl _)).mono ?_); rintro e W13 ⟨rfl, b12⟩)
  have h14 := Held.ran h6 (ran_below b12 _) (Nat.le_trans (le9.out) t10.out) (.inr (Nat.le_refl _))
  have h15 := Held.ran h11 (ran_below b12 _) (Nat.le_refl _) (.inr (Nat.le_refl _))
  have bel16 : Below w.heap.size w W13 := Below.trans bel7 (Below.mono b12 (Nat.le_trans (le9.out) t10.out))
  have t17 : Hid (W1.heap.size ≤ W13.heap.size) := Lib.hid (Nat.le_trans t10.out (Below.size b12))
  clear h6 h11 bel7
  clear b12
  by_cases big18 : (1048576 : Int) < ((tot2 x_aG.G) : Nat)
  · rw [szF_big big18]
    go_wp2_with fail
    go_ret
    exact ⟨rfl, bel16⟩
  have e19 := szF_ok big18
  have H20 : Hid ((tot2 x_aG.G) ≤ 1048576) := Lib.hid (by omega)
  have hbd_aG : (tot2 x_aG.G) ≤ 1048576 := H20.out
  have hz23 : 0 ≤ szF 1048576 (tot2 x_aG.G) ∧ szF 1048576 (tot2 x_aG.G) ≤ 1048576 := by rw [e19]; omega
  generalize szF 1048576 (tot2 x_aG.G) = LEFT21 at hz23 ⊢
  clear e19 big18
  have HL22 := Lib.hid hz23
  have hz23a := hz23.1
  clear hz23
  have bk25 := Held.now h15
  have q26 := Blk.cell bk25 0
  clear bk25
  go_wp2_with fail
  have le27 : Hid (W1.heap.size ≤ W13.heap.size) := t17
  have t28 : Hid (W13.heap.size ≤ W13.heap.size) := Lib.hid (Nat.le_refl _)
  (go_at_call 16; (with_reducible refine (toGroup_any x_aG _ _ _ _ (Rows2.up (Held.now h14) (Nat.le_trans (le9.out) t17.out)) (Nat.le_refl _) H20.out).mono ?_); rintro e W29 ⟨A32, c33, L34, rfl, o31, b30⟩)
  have h38 := Held.ran h14 (ran_below b30 _) (Nat.le_trans (Nat.le_trans (le9.out) le27.out) t28.out) (.inr (Nat.le_refl _))
  have h39 := Held.ran h15 (ran_below b30 _) (Nat.le_trans (le27.out) t28.out) (.inr (Nat.le_refl _))
  have bel40 : Below w.heap.size w W29 := Below.trans bel16 (Below.mono b30 (Nat.le_trans (Nat.le_trans (le9.out) le27.out) t28.out))
  have t41 : Hid (W13.heap.size ≤ W29.heap.size) := Lib.hid (Nat.le_trans t28.out (Below.size b30))
  clear h14 h15 bel16
  have le42 : Hid (W13.heap.size ≤ W29.heap.size) := t41
  have t43 : Hid (W29.heap.size ≤ W29.heap.size) := Lib.hid (Nat.le_refl _)
  have fr44 := Own2.from o31
  have lt45 := Own2.lt o31
  have olt46 := Own2.olt o31
  have h47 := held_own2 o31 lt45 olt46
  have ln48 : (lens L34).sum ≤ 2000000 := by rw [Own2.lens o31]; exact Nat.le_trans (sum_le_tot2 _) (Nat.le_trans H20.out (by omega))
  clear o31 b30
  clear q26
  go_wp2_with fail
  (go_at_call 23; (with_reducible refine (specCen_any x_aG _ _ _ _ (Own2.row (Held.now h47)) (Nat.le_refl _)).mono ?_); rintro e W49 ⟨A52, c53, rfl, o51, b50⟩)
  have h58 := Held.ran h38 (ran_below b50 _) (Nat.le_trans (Nat.le_trans (Nat.le_trans (le9.out) le27.out) le42.out) t43.out) (.inr (Nat.le_refl _))
  have h59 := Held.ran h39 (ran_below b50 _) (Nat.le_trans (Nat.le_trans (le27.out) le42.out) t43.out) (.inr (Nat.le_refl _))
  have h60 := Held.ran h47 (ran_below b50 _) (Nat.le_refl _) (.inr (Nat.le_refl _))
  have bel61 : Below w.heap.size w W49 := Below.trans bel40 (Below.mono b50 (Nat.le_trans (Nat.le_trans (Nat.le_trans (le9.out) le27.out) le42.out) t43.out))
  have t62 : Hid (W29.heap.size ≤ W49.heap.size) := Lib.hid (Nat.le_trans t43.out (Below.size b50))
  clear h38 h39 h47 bel40
  have le63 : Hid (W29.heap.size ≤ W49.heap.size) := t62
  have t64 : Hid (W49.heap.size ≤ W49.heap.size) := Lib.hid (Nat.le_refl _)
  have fr65 := Own.from o51
  have lt66 := Own.lt o51
  have h67 := held_own o51 lt66
  clear o51 b50
  have bk68 := Held.now h59
  have q69 := Blk.cell bk68 0
  clear bk68
  go_wp2_with fail
  (go_at_call 16; (with_reducible refine (toGroup_any x_aG _ _ _ _ (Rows2.up (Held.now h58) (Nat.le_trans (Nat.le_trans (Nat.le_trans (Nat.le_trans (le9.out) le27.out) le42.out) le63.out) t64.out)) (Nat.le_refl _) H20.out).mono ?_); rintro e W70 ⟨A73, c74, L75, rfl, o72, b71⟩)
  have h79 := Held.ran h58 (ran_below b71 _) (Nat.le_trans (Nat.le_trans (Nat.le_trans (Nat.le_trans (le9.out) le27.out) le42.out) le63.out) t64.out) (.inr (Nat.le_refl _))
  have h80 := Held.ran h59 (ran_below b71 _) (Nat.le_trans (Nat.le_trans (Nat.le_trans (le27.out) le42.out) le63.out) t64.out) (.inr (Nat.le_refl _))
  have h81 := Held.ran h60 (ran_below b71 _) (Nat.le_trans (le63.out) t64.out) (.inr (Nat.le_refl _))
  have h82 := Held.ran h67 (ran_below b71 _) (Nat.le_refl _) (.inr (Nat.le_refl _))
  have bel83 : Below w.heap.size w W70 := Below.trans bel61 (Below.mono b71 (Nat.le_trans (Nat.le_trans (Nat.le_trans (Nat.le_trans (le9.out) le27.out) le42.out) le63.out) t64.out))
  have t84 : Hid (W49.heap.size ≤ W70.heap.size) := Lib.hid (Nat.le_trans t64.out (Below.size b71))
  clear h58 h59 h60 h67 bel61
  have le85 : Hid (W49.heap.size ≤ W70.heap.size) := t84
  have t86 : Hid (W70.heap.size ≤ W70.heap.size) := Lib.hid (Nat.le_refl _)
  have fr87 := Own2.from o72
  have lt88 := Own2.lt o72
  have olt89 := Own2.olt o72
  have h90 := held_own2 o72 lt88 olt89
  have ln91 : (lens L75).sum ≤ 2000000 := by rw [Own2.lens o72]; exact Nat.le_trans (sum_le_tot2 _) (Nat.le_trans H20.out (by omega))
  clear o72 b71
  clear q69
  have bk96 := Held.now h80
  have q97 : W70.cell? ⟨w.heap.size, 0, none⟩ = some (.slice A_aG n_aG c_aG) := Blk.cell bk96 0
  clear bk96
  have lt98 : w.heap.size < W70.heap.size := Nat.lt_of_lt_of_le lt5.out (Nat.le_trans (Nat.le_trans (Nat.le_trans (Nat.le_trans (le27.out) le42.out) le63.out) le85.out) t86.out)
  have ne99 : w.heap.size ≠ W70.heap.size := Nat.ne_of_lt lt98
  obtain ⟨W92, hW93⟩ : ∃ W92, W92 = W70.alloc (.cells #[.slice A73 x_aG.G.length c74] 28) := ⟨_, rfl⟩
  have be94 : Below W70.heap.size W70 W92 := by rw [hW93]; exact (Below.refl _ _).alloc (Nat.le_refl _) _
  have bk95 : Blk W92 W70.heap.size #[.slice A73 x_aG.G.length c74] 28 := by rw [hW93]; exact Blk.new _ _ _
  have lt100 : Hid (W70.heap.size < W92.heap.size) := Lib.hid (Blk.lt bk95)
  have h101 := Held.ran h79 (ran_below be94 _) (Nat.le_trans (Nat.le_trans (Nat.le_trans (Nat.le_trans (Nat.le_trans (le9.out) le27.out) le42.out) le63.out) le85.out) t86.out) (.inr (Nat.le_refl _))
  have h102 := Held.ran h80 (ran_below be94 _) (Nat.le_trans (Nat.le_trans (Nat.le_trans (Nat.le_trans (le27.out) le42.out) le63.out) le85.out) t86.out) (.inr (Nat.le_refl _))
  have h103 := Held.ran h81 (ran_below be94 _) (Nat.le_trans (Nat.le_trans (le63.out) le85.out) t86.out) (.inr (Nat.le_refl _))
  have h104 := Held.ran h82 (ran_below be94 _) (Nat.le_trans (le85.out) t86.out) (.inr (Nat.le_refl _))
  have h105 := Held.ran h90 (ran_below be94 _) (Nat.le_refl _) (.inr (Nat.le_refl _))
  have bel106 : Below w.heap.size w W92 := Below.trans bel83 (Below.mono be94 (Nat.le_trans (Nat.le_trans (Nat.le_trans (Nat.le_trans (Nat.le_trans (le9.out) le27.out) le42.out) le63.out) le85.out) t86.out))
  have t107 : Hid (W70.heap.size ≤ W92.heap.size) := Lib.hid (Nat.le_trans t86.out (Below.size be94))
  clear h79 h80 h81 h82 h90 bel83
  have le108 : Hid (W70.heap.size ≤ W92.heap.size) := t107
  have t109 : Hid (W92.heap.size ≤ W92.heap.size) := Lib.hid (Nat.le_refl _)
  have h110 := held_blk bk95 (Nat.le_refl _) lt100.out
  clear bk95 be94
  go_wp2_with fail
  rw [show W70.alloc (.cells #[.slice A73 x_aG.G.length c74] 28) = W92 from hW93.symm]
  clear hW93
  clear q97 lt98 ne99
  (go_at_call 24; (with_reducible refine (implCen_any x_aG _ _ _ _ (Own2.row (Held.now h105)) (Nat.le_refl _)).mono ?_); rintro e W111 ⟨A114, c115, rfl, o113, b112⟩)
  have h120 := Held.ran h101 (ran_below b112 _) (Nat.le_trans (Nat.le_trans (Nat.le_trans (Nat.le_trans (Nat.le_trans (Nat.le_trans (le9.out) le27.out) le42.out) le63.out) le85.out) le108.out) t109.out) (.inr (Nat.le_refl _))
  have h121 := Held.ran h102 (ran_below b112 _) (Nat.le_trans (Nat.le_trans (Nat.le_trans (Nat.le_trans (Nat.le_trans (le27.out) le42.out) le63.out) le85.out) le108.out) t109.out) (.inr (Nat.le_refl _))
  have h122 := Held.ran h103 (ran_below b112 _) (Nat.le_trans (Nat.le_trans (Nat.le_trans (le63.out) le85.out) le108.out) t109.out) (.inr (Nat.le_refl _))
  have h123 := Held.ran h104 (ran_below b112 _) (Nat.le_trans (Nat.le_trans (le85.out) le108.out) t109.out) (.inr (Nat.le_refl _))
  have h124 := Held.ran h105 (ran_below b112 _) (Nat.le_trans (le108.out) t109.out) (.inr (Nat.le_refl _))
  have h125 := Held.ran h110 (ran_below b112 _) (Nat.le_refl _) (.inr (Nat.le_refl _))
  have bel126 : Below w.heap.size w W111 := Below.trans bel106 (Below.mono b112 (Nat.le_trans (Nat.le_trans (Nat.le_trans (Nat.le_trans (Nat.le_trans (Nat.le_trans (le9.out) le27.out) le42.out) le63.out) le85.out) le108.out) t109.out))
  have t127 : Hid (W92.heap.size ≤ W111.heap.size) := Lib.hid (Nat.le_trans t109.out (Below.size b112))
  clear h101 h102 h103 h104 h105 h110 bel106
  have le128 : Hid (W92.heap.size ≤ W111.heap.size) := t127
  have t129 : Hid (W111.heap.size ≤ W111.heap.size) := Lib.hid (Nat.le_refl _)
  have fr130 := Own.from o113
  have lt131 := Own.lt o113
  have h132 := held_own o113 lt131
  clear o113 b112
  go_wp2_with fail
  (go_at_call 25; (with_reducible refine (eqInt64SB_any _ _ _ _ _ _ _ (Own.row (Held.now h132)) (Own.row (Held.now h123))).mono ?_); rintro e W134 ⟨rfl, b133⟩)
  have h135 := Held.ran h120 (ran_below b133 _) (Nat.le_trans (Nat.le_trans (Nat.le_trans (Nat.le_trans (Nat.le_trans (Nat.le_trans (Nat.le_trans (le9.out) le27.out) le42.out) le63.out) le85.out) le108.out) le128.out) t129.out) (.inr (Nat.le_refl _))
  have h136 := Held.ran h121 (ran_below b133 _) (Nat.le_trans (Nat.le_trans (Nat.le_trans (Nat.le_trans (Nat.le_trans (Nat.le_trans (le27.out) le42.out) le63.out) le85.out) le108.out) le128.out) t129.out) (.inr (Nat.le_refl _))
  have h137 := Held.ran h122 (ran_below b133 _) (Nat.le_trans (Nat.le_trans (Nat.le_trans (Nat.le_trans (le63.out) le85.out) le108.out) le128.out) t129.out) (.inr (Nat.le_refl _))
  have h138 := Held.ran h123 (ran_below b133 _) (Nat.le_trans (Nat.le_trans (Nat.le_trans (le85.out) le108.out) le128.out) t129.out) (.inr (Nat.le_refl _))
  have h139 := Held.ran h124 (ran_below b133 _) (Nat.le_trans (Nat.le_trans (le108.out) le128.out) t129.out) (.inr (Nat.le_refl _))
  have h140 := Held.ran h125 (ran_below b133 _) (Nat.le_trans (le128.out) t129.out) (.inr (Nat.le_refl _))
  have h141 := Held.ran h132 (ran_below b133 _) (Nat.le_refl _) (.inr (Nat.le_refl _))
  have bel142 : Below w.heap.size w W134 := Below.trans bel126 (Below.mono b133 (Nat.le_trans (Nat.le_trans (Nat.le_trans (Nat.le_trans (Nat.le_trans (Nat.le_trans (Nat.le_trans (le9.out) le27.out) le42.out) le63.out) le85.out) le108.out) le128.out) t129.out))
  have t143 : Hid (W111.heap.size ≤ W134.heap.size) := Lib.hid (Nat.le_trans t129.out (Below.size b133))
  clear h120 h121 h122 h123 h124 h125 h132 bel126
  clear b133
  have bk144 := Held.now h140
  have q145 : W134.cell? ⟨W70.heap.size, 0, none⟩ = some (.slice A73 x_aG.G.length c74) := Blk.cell bk144 0
  clear bk144
  have bk146 := Held.now h136
  have q147 : W134.cell? ⟨w.heap.size, 0, none⟩ = some (.slice A_aG n_aG c_aG) := Blk.cell bk146 0
  clear bk146
  go_wp2_with fail
  have h148 := Held.ran h135 (ran_drew W134 _) (Nat.le_trans (Nat.le_trans (Nat.le_trans (Nat.le_trans (Nat.le_trans (Nat.le_trans (Nat.le_trans (le9.out) le27.out) le42.out) le63.out) le85.out) le108.out) le128.out) t143.out) (.inr (Nat.le_refl _))
  have h149 := Held.ran h136 (ran_drew W134 _) (Nat.le_trans (Nat.le_trans (Nat.le_trans (Nat.le_trans (Nat.le_trans (Nat.le_trans (le27.out) le42.out) le63.out) le85.out) le108.out) le128.out) t143.out) (.inr (Nat.le_refl _))
  have h150 := Held.ran h137 (ran_drew W134 _) (Nat.le_trans (Nat.le_trans (Nat.le_trans (Nat.le_trans (le63.out) le85.out) le108.out) le128.out) t143.out) (.inr (Nat.le_refl _))
  have h151 := Held.ran h138 (ran_drew W134 _) (Nat.le_trans (Nat.le_trans (Nat.le_trans (le85.out) le108.out) le128.out) t143.out) (.inr (Nat.le_refl _))
  have h152 := Held.ran h139 (ran_drew W134 _) (Nat.le_trans (Nat.le_trans (le108.out) le128.out) t143.out) (.inr (Nat.le_refl _))
  have h153 := Held.ran h140 (ran_drew W134 _) (Nat.le_trans (le128.out) t143.out) (.inr (Nat.le_refl _))
  have h154 := Held.ran h141 (ran_drew W134 _) (Nat.le_trans (Nat.le_refl _) t143.out) (.inr (Nat.le_refl _))
  have bel155 : Below w.heap.size w (World.drew W134) := below_drew bel142
  have t156 : Hid (W111.heap.size ≤ ((World.drew W134)).heap.size) := t143
  clear h135 h136 h137 h138 h139 h140 h141 bel142
  have le158 : Hid (W111.heap.size ≤ (World.drew W134).heap.size) := t156
  have t159 : Hid ((World.drew W134).heap.size ≤ (World.drew W134).heap.size) := Lib.hid (Nat.le_refl _)
  refine region_held_n 5 (fun w' => w'.cell? ⟨W70.heap.size, 0, none⟩ = some (.slice A73 x_aG.G.length c74) ∧ w'.cell? ⟨w.heap.size, 0, none⟩ = some (.slice A_aG n_aG c_aG)) (by kernel_rfl) (by kernel_rfl) ⟨q145, q147⟩ (fun hS => ?_)
  refine takeD 0 (some 41) (v := ?_) rfl (by kernel_rfl) (by kernel_rfl) (by kernel_rfl) (fun _ _ _ h => h) hS (fun o ho => Or.inl ⟨by cases ho; rfl, ?_⟩) ?_
  rotate_left
  · cases ho
    intro w' hw'
    (try dsimp only at hw')
    go_simp
    (try with_reducible rfl)
  (try simp only [Act.put, List.setIfInBounds_toArray, List.set_cons_zero, List.set_cons_succ])
  refine takeD 1 (some 42) (v := ?_) rfl (by kernel_rfl) (by kernel_rfl) (by kernel_rfl) (fun _ _ _ h => h) hS (fun o ho => Or.inl ⟨by cases ho; rfl, ?_⟩) ?_
  rotate_left
  · cases ho
    intro w' hw'
    (try dsimp only at hw')
    go_simp
    (try with_reducible rfl)
  (try simp only [Act.put, List.setIfInBounds_toArray, List.set_cons_zero, List.set_cons_succ])
  refine oneD 2 (some 43) (by kernel_rfl) rfl (fun o ho K hK hdo => ?_)
  simp only [List.getElem?_toArray, List.getElem?_cons_succ, List.getElem?_cons_zero, Option.some.injEq] at ho
  subst ho
  clear hdo
  rw [if_pos (by rfl)]
  go_wp2_with ((go_at_call 16; (with_reducible refine (toGroup_any x_aG _ _ _ _ (Rows2.up (Held.now h148) (Nat.le_trans (Nat.le_trans (Nat.le_trans (Nat.le_trans (Nat.le_trans (Nat.le_trans (Nat.le_trans (le9.out) le27.out) le42.out) le63.out) le85.out) le108.out) le128.out) t156.out)) (Nat.le_refl _) H20.out).mono ?_); rintro e W160 ⟨A163, c164, L165, rfl, o162, b161⟩))
  have h169 := Held.ran h148 (ran_below b161 _) (Nat.le_trans (Nat.le_trans (Nat.le_trans (Nat.le_trans (Nat.le_trans (Nat.le_trans (Nat.le_trans (Nat.le_trans (le9.out) le27.out) le42.out) le63.out) le85.out) le108.out) le128.out) le158.out) t159.out) (.inr (Nat.le_refl _))
  have h170 := Held.ran h149 (ran_below b161 _) (Nat.le_trans (Nat.le_trans (Nat.le_trans (Nat.le_trans (Nat.le_trans (Nat.le_trans (Nat.le_trans (le27.out) le42.out) le63.out) le85.out) le108.out) le128.out) le158.out) t159.out) (.inr (Nat.le_refl _))
  have h171 := Held.ran h150 (ran_below b161 _) (Nat.le_trans (Nat.le_trans (Nat.le_trans (Nat.le_trans (Nat.le_trans (le63.out) le85.out) le108.out) le128.out) le158.out) t159.out) (.inr (Nat.le_refl _))
  have h172 := Held.ran h151 (ran_below b161 _) (Nat.le_trans (Nat.le_trans (Nat.le_trans (Nat.le_trans (le85.out) le108.out) le128.out) le158.out) t159.out) (.inr (Nat.le_refl _))
  have h173 := Held.ran h152 (ran_below b161 _) (Nat.le_trans (Nat.le_trans (Nat.le_trans (le108.out) le128.out) le158.out) t159.out) (.inr (Nat.le_refl _))
  have h174 := Held.ran h153 (ran_below b161 _) (Nat.le_trans (Nat.le_trans (le128.out) le158.out) t159.out) (.inr (Nat.le_refl _))
  have h175 := Held.ran h154 (ran_below b161 _) (Nat.le_trans (le158.out) t159.out) (.inr (Nat.le_refl _))
  have bel176 : Below w.heap.size w W160 := Below.trans bel155 (Below.mono b161 (Nat.le_trans (Nat.le_trans (Nat.le_trans (Nat.le_trans (Nat.le_trans (Nat.le_trans (Nat.le_trans (Nat.le_trans (le9.out) le27.out) le42.out) le63.out) le85.out) le108.out) le128.out) le158.out) t159.out))
  have t177 : Hid ((World.drew W134).heap.size ≤ W160.heap.size) := Lib.hid (Nat.le_trans t159.out (Below.size b161))
  clear h148 h149 h150 h151 h152 h153 h154 bel155
  have le178 : Hid ((World.drew W134).heap.size ≤ W160.heap.size) := t177
  have t179 : Hid (W160.heap.size ≤ W160.heap.size) := Lib.hid (Nat.le_refl _)
  have fr180 := Own2.from o162
  have lt181 := Own2.lt o162
  have olt182 := Own2.olt o162
  have h183 := held_own2 o162 lt181 olt182
  have ln184 : (lens L165).sum ≤ 2000000 := by rw [Own2.lens o162]; exact Nat.le_trans (sum_le_tot2 _) (Nat.le_trans H20.out (by omega))
  clear o162 b161
  have bk185 := Held.now h174
  have q186 : W160.cell? ⟨W70.heap.size, 0, none⟩ = some (.slice A73 x_aG.G.length c74) := Blk.cell bk185 0
  clear bk185
  have bk187 := Held.now h170
  have q188 : W160.cell? ⟨w.heap.size, 0, none⟩ = some (.slice A_aG n_aG c_aG) := Blk.cell bk187 0
  clear bk187
  refine hK.out _ _ ?_ (fun hS => ?_)
  · exact ⟨q186, q188⟩
  clear hK K
  (try simp only [Act.put, List.setIfInBounds_toArray, List.set_cons_zero, List.set_cons_succ])
  refine oneD 3 (some 44) (by kernel_rfl) rfl (fun o ho K hK hdo => ?_)
  simp only [List.getElem?_toArray, List.getElem?_cons_succ, List.getElem?_cons_zero, Option.some.injEq] at ho
  subst ho
  clear hdo
  rw [if_pos (by rfl)]
  go_wp2_with ((go_at_call 18; (with_reducible refine (eqGroup_any x_aG _ _ _ _ _ _ (Own2.row (Held.now h173)) (Own2.row (Held.now h183)) (Nat.le_refl _) (Nat.le_refl _)).mono ?_); rintro e W190 ⟨rfl, b189⟩))
  have h191 := Held.ran h169 (ran_below b189 _) (Nat.le_trans (Nat.le_trans (Nat.le_trans (Nat.le_trans (Nat.le_trans (Nat.le_trans (Nat.le_trans (Nat.le_trans (Nat.le_trans (le9.out) le27.out) le42.out) le63.out) le85.out) le108.out) le128.out) le158.out) le178.out) t179.out) (.inr (Nat.le_refl _))
  have h192 := Held.ran h170 (ran_below b189 _) (Nat.le_trans (Nat.le_trans (Nat.le_trans (Nat.le_trans (Nat.le_trans (Nat.le_trans (Nat.le_trans (Nat.le_trans (le27.out) le42.out) le63.out) le85.out) le108.out) le128.out) le158.out) le178.out) t179.out) (.inr (Nat.le_refl _))
  have h193 := Held.ran h171 (ran_below b189 _) (Nat.le_trans (Nat.le_trans (Nat.le_trans (Nat.le_trans (Nat.le_trans (Nat.le_trans (le63.out) le85.out) le108.out) le128.out) le158.out) le178.out) t179.out) (.inr (Nat.le_refl _))
  have h194 := Held.ran h172 (ran_below b189 _) (Nat.le_trans (Nat.le_trans (Nat.le_trans (Nat.le_trans (Nat.le_trans (le85.out) le108.out) le128.out) le158.out) le178.out) t179.out) (.inr (Nat.le_refl _))
  have h195 := Held.ran h173 (ran_below b189 _) (Nat.le_trans (Nat.le_trans (Nat.le_trans (Nat.le_trans (le108.out) le128.out) le158.out) le178.out) t179.out) (.inr (Nat.le_refl _))
  have h196 := Held.ran h174 (ran_below b189 _) (Nat.le_trans (Nat.le_trans (Nat.le_trans (le128.out) le158.out) le178.out) t179.out) (.inr (Nat.le_refl _))
  have h197 := Held.ran h175 (ran_below b189 _) (Nat.le_trans (Nat.le_trans (le158.out) le178.out) t179.out) (.inr (Nat.le_refl _))
  have h198 := Held.ran h183 (ran_below b189 _) (Nat.le_refl _) (.inr (Nat.le_refl _))
  have bel199 : Below w.heap.size w W190 := Below.trans bel176 (Below.mono b189 (Nat.le_trans (Nat.le_trans (Nat.le_trans (Nat.le_trans (Nat.le_trans (Nat.le_trans (Nat.le_trans (Nat.le_trans (Nat.le_trans (le9.out) le27.out) le42.out) le63.out) le85.out) le108.out) le128.out) le158.out) le178.out) t179.out))
  have t200 : Hid (W160.heap.size ≤ W190.heap.size) := Lib.hid (Nat.le_trans t179.out (Below.size b189))
  clear h169 h170 h171 h172 h173 h174 h175 h183 bel176
  have bk201 := Held.now h196
  have q202 : W190.cell? ⟨W70.heap.size, 0, none⟩ = some (.slice A73 x_aG.G.length c74) := Blk.cell bk201 0
  clear bk201
  have bk203 := Held.now h192
  have q204 : W190.cell? ⟨w.heap.size, 0, none⟩ = some (.slice A_aG n_aG c_aG) := Blk.cell bk203 0
  clear bk203
  clear b189
  refine hK.out _ _ ?_ (fun hS => ?_)
  · exact ⟨q202, q204⟩
  clear hK K
  (try simp only [Act.put, List.setIfInBounds_toArray, List.set_cons_zero, List.set_cons_succ])
  refine takeD 4 (some 45) (v := ?_) rfl (by kernel_rfl) (by kernel_rfl) (by kernel_rfl) (fun _ _ _ h => h) hS (fun o ho => Or.inl ⟨by cases ho; rfl, ?_⟩) ?_
  rotate_left
  · cases ho
    intro w' hw'
    (try dsimp only at hw')
    go_simp
    (try with_reducible rfl)
  (try simp only [Act.put, List.setIfInBounds_toArray, List.set_cons_zero, List.set_cons_succ])
  refine wpAnyH_done (by kernel_rfl) ?_ _
  clear hS
  clear q145 q147 q186 q188 q202 q204
  have bk208 := Held.now h196
  have q209 := Blk.cell bk208 0
  clear bk208
  go_wp2_with fail
  (go_at_call 26; (with_reducible refine (markGroup_any x_aG _ _ _ 1 1 (by omega) _ _ _ (Held.now h195) (Nat.le_trans (Nat.le_trans (Nat.le_trans (Nat.le_trans (Nat.le_trans (le85.out) le108.out) le128.out) le158.out) le178.out) t200.out) (by omega)).mono ?_); rintro e W207 ⟨rfl, o205, k206, k210⟩)
  have r211 := k210 _ lt88
  clear k206 k210
  have h212 := Held.ran h191 (r211) (Nat.le_trans (Nat.le_trans (Nat.le_trans (Nat.le_trans (Nat.le_trans (Nat.le_trans (Nat.le_trans (Nat.le_trans (Nat.le_trans (le9.out) le27.out) le42.out) le63.out) le85.out) le108.out) le128.out) le158.out) le178.out) t200.out) (.inr (Nat.le_trans (Nat.le_trans (Nat.le_trans (le9.out) le27.out) le42.out) le63.out))
  have h213 := Held.ran h192 (r211) (Nat.le_trans (Nat.le_trans (Nat.le_trans (Nat.le_trans (Nat.le_trans (Nat.le_trans (Nat.le_trans (Nat.le_trans (le27.out) le42.out) le63.out) le85.out) le108.out) le128.out) le158.out) le178.out) t200.out) (.inr (Nat.le_trans (Nat.le_trans (le27.out) le42.out) le63.out))
  have h214 := Held.ran h193 (r211) (Nat.le_trans (Nat.le_trans (Nat.le_trans (Nat.le_trans (Nat.le_trans (Nat.le_trans (le63.out) le85.out) le108.out) le128.out) le158.out) le178.out) t200.out) (.inr (le63.out))
  have h215 := Held.ran h194 (r211) (Nat.le_trans (Nat.le_trans (Nat.le_trans (Nat.le_trans (Nat.le_trans (le85.out) le108.out) le128.out) le158.out) le178.out) t200.out) (.inr (Nat.le_refl _))
  have h216 := Held.ran h196 (r211) (Nat.le_trans (Nat.le_trans (Nat.le_trans (le128.out) le158.out) le178.out) t200.out) (.inl (Nat.le_refl _))
  have h217 := Held.ran h197 (r211) (Nat.le_trans (Nat.le_trans (le158.out) le178.out) t200.out) (.inl (le108.out))
  have h218 := Held.ran h198 (r211) (Nat.le_trans (Nat.le_refl _) t200.out) (.inl (Nat.le_trans (Nat.le_trans (le108.out) le128.out) le158.out))
  have bel219 : Below w.heap.size w W207 := Below.trans bel199 (Ran.below r211 (Nat.le_trans (Nat.le_trans (Nat.le_trans (le9.out) le27.out) le42.out) le63.out) (Nat.le_trans (Nat.le_trans (Nat.le_trans (Nat.le_trans (Nat.le_trans (Nat.le_trans (Nat.le_trans (Nat.le_trans (Nat.le_trans (le9.out) le27.out) le42.out) le63.out) le85.out) le108.out) le128.out) le158.out) le178.out) t200.out))
  have t220 : Hid (W160.heap.size ≤ W207.heap.size) := Lib.hid (Nat.le_trans t200.out (Ran.size r211))
  clear h191 h192 h193 h194 h196 h197 h198 bel199
  have h221 := held_own2 o205 lt88 olt89
  clear o205 h195 r211
  clear q209
  go_wp2_with fail
  (go_at_call 25; (with_reducible refine (eqInt64SB_any _ _ _ _ _ _ _ (Own.row (Held.now h217)) (Own.row (Held.now h215))).mono ?_); rintro e W223 ⟨rfl, b222⟩)
  have h224 := Held.ran h212 (ran_below b222 _) (Nat.le_trans (Nat.le_trans (Nat.le_trans (Nat.le_trans (Nat.le_trans (Nat.le_trans (Nat.le_trans (Nat.le_trans (Nat.le_trans (le9.out) le27.out) le42.out) le63.out) le85.out) le108.out) le128.out) le158.out) le178.out) t220.out) (.inr (Nat.le_refl _))
  have h225 := Held.ran h213 (ran_below b222 _) (Nat.le_trans (Nat.le_trans (Nat.le_trans (Nat.le_trans (Nat.le_trans (Nat.le_trans (Nat.le_trans (Nat.le_trans (le27.out) le42.out) le63.out) le85.out) le108.out) le128.out) le158.out) le178.out) t220.out) (.inr (Nat.le_refl _))
  have h226 := Held.ran h214 (ran_below b222 _) (Nat.le_trans (Nat.le_trans (Nat.le_trans (Nat.le_trans (Nat.le_trans (Nat.le_trans (le63.out) le85.out) le108.out) le128.out) le158.out) le178.out) t220.out) (.inr (Nat.le_refl _))
  have h227 := Held.ran h215 (ran_below b222 _) (Nat.le_trans (Nat.le_trans (Nat.le_trans (Nat.le_trans (Nat.le_trans (le85.out) le108.out) le128.out) le158.out) le178.out) t220.out) (.inr (Nat.le_refl _))
  have h228 := Held.ran h221 (ran_below b222 _) (Nat.le_trans (Nat.le_trans (Nat.le_trans (Nat.le_trans (le108.out) le128.out) le158.out) le178.out) t220.out) (.inr (Nat.le_refl _))
  have h229 := Held.ran h216 (ran_below b222 _) (Nat.le_trans (Nat.le_trans (Nat.le_trans (le128.out) le158.out) le178.out) t220.out) (.inr (Nat.le_refl _))
  have h230 := Held.ran h217 (ran_below b222 _) (Nat.le_trans (Nat.le_trans (le158.out) le178.out) t220.out) (.inr (Nat.le_refl _))
  have h231 := Held.ran h218 (ran_below b222 _) (Nat.le_trans (Nat.le_refl _) t220.out) (.inr (Nat.le_refl _))
  have bel232 : Below w.heap.size w W223 := Below.trans bel219 (Below.mono b222 (Nat.le_trans (Nat.le_trans (Nat.le_trans (Nat.le_trans (Nat.le_trans (Nat.le_trans (Nat.le_trans (Nat.le_trans (Nat.le_trans (le9.out) le27.out) le42.out) le63.out) le85.out) le108.out) le128.out) le158.out) le178.out) t220.out))
  have t233 : Hid (W160.heap.size ≤ W223.heap.size) := Lib.hid (Nat.le_trans t220.out (Below.size b222))
  clear h212 h213 h214 h215 h221 h216 h217 h218 bel219
  clear b222
  go_wp2_with fail
  (go_at_call 27; (with_reducible refine (mark_any _ _ _ 1 1 (by omega) _ _ (Held.now h230) (by omega)).mono ?_); rintro e W236 ⟨rfl, o234, k235⟩)
  have r237 := ran_only k235 fr130 lt131
  have h238 := Held.ran h224 (r237) (Nat.le_trans (Nat.le_trans (Nat.le_trans (Nat.le_trans (Nat.le_trans (Nat.le_trans (Nat.le_trans (Nat.le_trans (Nat.le_trans (le9.out) le27.out) le42.out) le63.out) le85.out) le108.out) le128.out) le158.out) le178.out) t233.out) (.inr (Nat.le_trans (Nat.le_trans (Nat.le_trans (Nat.le_trans (Nat.le_trans (le9.out) le27.out) le42.out) le63.out) le85.out) le108.out))
  have h239 := Held.ran h225 (r237) (Nat.le_trans (Nat.le_trans (Nat.le_trans (Nat.le_trans (Nat.le_trans (Nat.le_trans (Nat.le_trans (Nat.le_trans (le27.out) le42.out) le63.out) le85.out) le108.out) le128.out) le158.out) le178.out) t233.out) (.inr (Nat.le_trans (Nat.le_trans (Nat.le_trans (Nat.le_trans (le27.out) le42.out) le63.out) le85.out) le108.out))
  have h240 := Held.ran h226 (r237) (Nat.le_trans (Nat.le_trans (Nat.le_trans (Nat.le_trans (Nat.le_trans (Nat.le_trans (le63.out) le85.out) le108.out) le128.out) le158.out) le178.out) t233.out) (.inr (Nat.le_trans (Nat.le_trans (le63.out) le85.out) le108.out))
  have h241 := Held.ran h227 (r237) (Nat.le_trans (Nat.le_trans (Nat.le_trans (Nat.le_trans (Nat.le_trans (le85.out) le108.out) le128.out) le158.out) le178.out) t233.out) (.inr (Nat.le_trans (le85.out) le108.out))
  have h242 := Held.ran h228 (r237) (Nat.le_trans (Nat.le_trans (Nat.le_trans (Nat.le_trans (le108.out) le128.out) le158.out) le178.out) t233.out) (.inr (le108.out))
  have h243 := Held.ran h229 (r237) (Nat.le_trans (Nat.le_trans (Nat.le_trans (le128.out) le158.out) le178.out) t233.out) (.inr (Nat.le_refl _))
  have h244 := Held.ran h231 (r237) (Nat.le_trans (Nat.le_refl _) t233.out) (.inl (le158.out))
  have bel245 : Below w.heap.size w W236 := Below.trans bel232 (Ran.below r237 (Nat.le_trans (Nat.le_trans (Nat.le_trans (Nat.le_trans (Nat.le_trans (le9.out) le27.out) le42.out) le63.out) le85.out) le108.out) (Nat.le_trans (Nat.le_trans (Nat.le_trans (Nat.le_trans (Nat.le_trans (Nat.le_trans (Nat.le_trans (Nat.le_trans (Nat.le_trans (le9.out) le27.out) le42.out) le63.out) le85.out) le108.out) le128.out) le158.out) le178.out) t233.out))
  have t246 : Hid (W160.heap.size ≤ W236.heap.size) := Lib.hid (Nat.le_trans t233.out (Ran.size r237))
  clear h224 h225 h226 h227 h228 h229 h231 bel232
  have h247 := held_own o234 lt131
  clear o234 h230 r237
  go_wp2_with fail
  (go_at_call 28; (with_reducible refine (held_any _ _ _ 1 1 (by omega) _ (Own.row (Held.now h247)) (by omega)).mono ?_); rintro e w' ⟨rfl, rfl⟩)
  have bk249 := Held.now h239
  have q250 := Blk.cell bk249 0
  clear bk249
  go_wp2_with fail
  have le251 : Hid (W160.heap.size ≤ W236.heap.size) := t246
  have t252 : Hid (W236.heap.size ≤ W236.heap.size) := Lib.hid (Nat.le_refl _)
  (go_at_call 16; (with_reducible refine (toGroup_any x_aG _ _ _ _ (Rows2.up (Held.now h238) (Nat.le_trans (Nat.le_trans (Nat.le_trans (Nat.le_trans (Nat.le_trans (Nat.le_trans (Nat.le_trans (Nat.le_trans (Nat.le_trans (le9.out) le27.out) le42.out) le63.out) le85.out) le108.out) le128.out) le158.out) le178.out) t246.out)) (Nat.le_refl _) H20.out).mono ?_); rintro e W253 ⟨A256, c257, L258, rfl, o255, b254⟩)
  have h262 := Held.ran h238 (ran_below b254 _) (Nat.le_trans (Nat.le_trans (Nat.le_trans (Nat.le_trans (Nat.le_trans (Nat.le_trans (Nat.le_trans (Nat.le_trans (Nat.le_trans (Nat.le_trans (le9.out) le27.out) le42.out) le63.out) le85.out) le108.out) le128.out) le158.out) le178.out) le251.out) t252.out) (.inr (Nat.le_refl _))
  have h263 := Held.ran h239 (ran_below b254 _) (Nat.le_trans (Nat.le_trans (Nat.le_trans (Nat.le_trans (Nat.le_trans (Nat.le_trans (Nat.le_trans (Nat.le_trans (Nat.le_trans (le27.out) le42.out) le63.out) le85.out) le108.out) le128.out) le158.out) le178.out) le251.out) t252.out) (.inr (Nat.le_refl _))
  have h264 := Held.ran h240 (ran_below b254 _) (Nat.le_trans (Nat.le_trans (Nat.le_trans (Nat.le_trans (Nat.le_trans (Nat.le_trans (Nat.le_trans (le63.out) le85.out) le108.out) le128.out) le158.out) le178.out) le251.out) t252.out) (.inr (Nat.le_refl _))
  have h265 := Held.ran h241 (ran_below b254 _) (Nat.le_trans (Nat.le_trans (Nat.le_trans (Nat.le_trans (Nat.le_trans (Nat.le_trans (le85.out) le108.out) le128.out) le158.out) le178.out) le251.out) t252.out) (.inr (Nat.le_refl _))
  have h266 := Held.ran h242 (ran_below b254 _) (Nat.le_trans (Nat.le_trans (Nat.le_trans (Nat.le_trans (Nat.le_trans (le108.out) le128.out) le158.out) le178.out) le251.out) t252.out) (.inr (Nat.le_refl _))
  have h267 := Held.ran h243 (ran_below b254 _) (Nat.le_trans (Nat.le_trans (Nat.le_trans (Nat.le_trans (le128.out) le158.out) le178.out) le251.out) t252.out) (.inr (Nat.le_refl _))
  have h268 := Held.ran h247 (ran_below b254 _) (Nat.le_trans (Nat.le_trans (Nat.le_trans (le158.out) le178.out) le251.out) t252.out) (.inr (Nat.le_refl _))
  have h269 := Held.ran h244 (ran_below b254 _) (Nat.le_trans (le251.out) t252.out) (.inr (Nat.le_refl _))
  have bel270 : Below w.heap.size w W253 := Below.trans bel245 (Below.mono b254 (Nat.le_trans (Nat.le_trans (Nat.le_trans (Nat.le_trans (Nat.le_trans (Nat.le_trans (Nat.le_trans (Nat.le_trans (Nat.le_trans (Nat.le_trans (le9.out) le27.out) le42.out) le63.out) le85.out) le108.out) le128.out) le158.out) le178.out) le251.out) t252.out))
  have t271 : Hid (W236.heap.size ≤ W253.heap.size) := Lib.hid (Nat.le_trans t252.out (Below.size b254))
  clear h238 h239 h240 h241 h242 h243 h247 h244 bel245
  have le272 : Hid (W236.heap.size ≤ W253.heap.size) := t271
  have t273 : Hid (W253.heap.size ≤ W253.heap.size) := Lib.hid (Nat.le_refl _)
  have fr274 := Own2.from o255
  have lt275 := Own2.lt o255
  have olt276 := Own2.olt o255
  have h277 := held_own2 o255 lt275 olt276
  have ln278 : (lens L258).sum ≤ 2000000 := by rw [Own2.lens o255]; exact Nat.le_trans (sum_le_tot2 _) (Nat.le_trans H20.out (by omega))
  clear o255 b254
  clear q250
  go_wp2_with fail
  (go_at_call 24; (with_reducible refine (implCen_any x_aG _ _ _ _ (Own2.row (Held.now h277)) (Nat.le_refl _)).mono ?_); rintro e W279 ⟨A282, c283, rfl, o281, b280⟩)
  have h288 := Held.ran h262 (ran_below b280 _) (Nat.le_trans (Nat.le_trans (Nat.le_trans (Nat.le_trans (Nat.le_trans (Nat.le_trans (Nat.le_trans (Nat.le_trans (Nat.le_trans (Nat.le_trans (Nat.le_trans (le9.out) le27.out) le42.out) le63.out) le85.out) le108.out) le128.out) le158.out) le178.out) le251.out) le272.out) t273.out) (.inr (Nat.le_refl _))
  have h289 := Held.ran h263 (ran_below b280 _) (Nat.le_trans (Nat.le_trans (Nat.le_trans (Nat.le_trans (Nat.le_trans (Nat.le_trans (Nat.le_trans (Nat.le_trans (Nat.le_trans (Nat.le_trans (le27.out) le42.out) le63.out) le85.out) le108.out) le128.out) le158.out) le178.out) le251.out) le272.out) t273.out) (.inr (Nat.le_refl _))
  have h290 := Held.ran h264 (ran_below b280 _) (Nat.le_trans (Nat.le_trans (Nat.le_trans (Nat.le_trans (Nat.le_trans (Nat.le_trans (Nat.le_trans (Nat.le_trans (le63.out) le85.out) le108.out) le128.out) le158.out) le178.out) le251.out) le272.out) t273.out) (.inr (Nat.le_refl _))
  have h291 := Held.ran h265 (ran_below b280 _) (Nat.le_trans (Nat.le_trans (Nat.le_trans (Nat.le_trans (Nat.le_trans (Nat.le_trans (Nat.le_trans (le85.out) le108.out) le128.out) le158.out) le178.out) le251.out) le272.out) t273.out) (.inr (Nat.le_refl _))
  have h292 := Held.ran h266 (ran_below b280 _) (Nat.le_trans (Nat.le_trans (Nat.le_trans (Nat.le_trans (Nat.le_trans (Nat.le_trans (le108.out) le128.out) le158.out) le178.out) le251.out) le272.out) t273.out) (.inr (Nat.le_refl _))
  have h293 := Held.ran h267 (ran_below b280 _) (Nat.le_trans (Nat.le_trans (Nat.le_trans (Nat.le_trans (Nat.le_trans (le128.out) le158.out) le178.out) le251.out) le272.out) t273.out) (.inr (Nat.le_refl _))
  have h294 := Held.ran h268 (ran_below b280 _) (Nat.le_trans (Nat.le_trans (Nat.le_trans (Nat.le_trans (le158.out) le178.out) le251.out) le272.out) t273.out) (.inr (Nat.le_refl _))
  have h295 := Held.ran h269 (ran_below b280 _) (Nat.le_trans (Nat.le_trans (le251.out) le272.out) t273.out) (.inr (Nat.le_refl _))
  have h296 := Held.ran h277 (ran_below b280 _) (Nat.le_refl _) (.inr (Nat.le_refl _))
  have bel297 : Below w.heap.size w W279 := Below.trans bel270 (Below.mono b280 (Nat.le_trans (Nat.le_trans (Nat.le_trans (Nat.le_trans (Nat.le_trans (Nat.le_trans (Nat.le_trans (Nat.le_trans (Nat.le_trans (Nat.le_trans (Nat.le_trans (le9.out) le27.out) le42.out) le63.out) le85.out) le108.out) le128.out) le158.out) le178.out) le251.out) le272.out) t273.out))
  have t298 : Hid (W253.heap.size ≤ W279.heap.size) := Lib.hid (Nat.le_trans t273.out (Below.size b280))
  clear h262 h263 h264 h265 h266 h267 h268 h269 h277 bel270
  have le299 : Hid (W253.heap.size ≤ W279.heap.size) := t298
  have t300 : Hid (W279.heap.size ≤ W279.heap.size) := Lib.hid (Nat.le_refl _)
  have fr301 := Own.from o281
  have lt302 := Own.lt o281
  have h303 := held_own o281 lt302
  clear o281 b280
  go_wp2_with fail
  (go_at_call 25; (with_reducible refine (eqInt64SB_any _ _ _ _ _ _ _ (Own.row (Held.now h303)) (Own.row (Held.now h291))).mono ?_); rintro e W305 ⟨rfl, b304⟩)
  have h306 := Held.ran h288 (ran_below b304 _) (Nat.le_trans (Nat.le_trans (Nat.le_trans (Nat.le_trans (Nat.le_trans (Nat.le_trans (Nat.le_trans (Nat.le_trans (Nat.le_trans (Nat.le_trans (Nat.le_trans (Nat.le_trans (le9.out) le27.out) le42.out) le63.out) le85.out) le108.out) le128.out) le158.out) le178.out) le251.out) le272.out) le299.out) t300.out) (.inr (Nat.le_refl _))
  have h307 := Held.ran h289 (ran_below b304 _) (Nat.le_trans (Nat.le_trans (Nat.le_trans (Nat.le_trans (Nat.le_trans (Nat.le_trans (Nat.le_trans (Nat.le_trans (Nat.le_trans (Nat.le_trans (Nat.le_trans (le27.out) le42.out) le63.out) le85.out) le108.out) le128.out) le158.out) le178.out) le251.out) le272.out) le299.out) t300.out) (.inr (Nat.le_refl _))
  have h308 := Held.ran h290 (ran_below b304 _) (Nat.le_trans (Nat.le_trans (Nat.le_trans (Nat.le_trans (Nat.le_trans (Nat.le_trans (Nat.le_trans (Nat.le_trans (Nat.le_trans (le63.out) le85.out) le108.out) le128.out) le158.out) le178.out) le251.out) le272.out) le299.out) t300.out) (.inr (Nat.le_refl _))
  have h309 := Held.ran h291 (ran_below b304 _) (Nat.le_trans (Nat.le_trans (Nat.le_trans (Nat.le_trans (Nat.le_trans (Nat.le_trans (Nat.le_trans (Nat.le_trans (le85.out) le108.out) le128.out) le158.out) le178.out) le251.out) le272.out) le299.out) t300.out) (.inr (Nat.le_refl _))
  have h310 := Held.ran h292 (ran_below b304 _) (Nat.le_trans (Nat.le_trans (Nat.le_trans (Nat.le_trans (Nat.le_trans (Nat.le_trans (Nat.le_trans (le108.out) le128.out) le158.out) le178.out) le251.out) le272.out) le299.out) t300.out) (.inr (Nat.le_refl _))
  have h311 := Held.ran h293 (ran_below b304 _) (Nat.le_trans (Nat.le_trans (Nat.le_trans (Nat.le_trans (Nat.le_trans (Nat.le_trans (le128.out) le158.out) le178.out) le251.out) le272.out) le299.out) t300.out) (.inr (Nat.le_refl _))
  have h312 := Held.ran h294 (ran_below b304 _) (Nat.le_trans (Nat.le_trans (Nat.le_trans (Nat.le_trans (Nat.le_trans (le158.out) le178.out) le251.out) le272.out) le299.out) t300.out) (.inr (Nat.le_refl _))
  have h313 := Held.ran h295 (ran_below b304 _) (Nat.le_trans (Nat.le_trans (Nat.le_trans (le251.out) le272.out) le299.out) t300.out) (.inr (Nat.le_refl _))
  have h314 := Held.ran h296 (ran_below b304 _) (Nat.le_trans (le299.out) t300.out) (.inr (Nat.le_refl _))
  have h315 := Held.ran h303 (ran_below b304 _) (Nat.le_refl _) (.inr (Nat.le_refl _))
  have bel316 : Below w.heap.size w W305 := Below.trans bel297 (Below.mono b304 (Nat.le_trans (Nat.le_trans (Nat.le_trans (Nat.le_trans (Nat.le_trans (Nat.le_trans (Nat.le_trans (Nat.le_trans (Nat.le_trans (Nat.le_trans (Nat.le_trans (Nat.le_trans (le9.out) le27.out) le42.out) le63.out) le85.out) le108.out) le128.out) le158.out) le178.out) le251.out) le272.out) le299.out) t300.out))
  have t317 : Hid (W279.heap.size ≤ W305.heap.size) := Lib.hid (Nat.le_trans t300.out (Below.size b304))
  clear h288 h289 h290 h291 h292 h293 h294 h295 h296 h303 bel297
  clear b304
  go_wp2_with fail
  (go_at_call 28; (with_reducible refine (held_any _ _ _ 1 1 (by omega) _ (Own.row (Held.now h312)) (by omega)).mono ?_); rintro e w' ⟨rfl, rfl⟩)
  go_wp2_with fail
  go_ret
  exact ⟨rfl, bel316⟩
end Go.Proofs.Yteggllmiapdmcab
