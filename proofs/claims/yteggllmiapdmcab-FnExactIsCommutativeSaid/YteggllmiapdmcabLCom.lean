/-
  The walk of the law of IsCommutative.
-/
import Derived.Test.YteggllmiapdmcabGCo
import Derived.Test.YteggllmiapdmcabT2
import Derived.Test.YteggllmiapdmcabHChain
import Derived.Test.YteggllmiapdmcabLast
import Derived.Test.YteggllmiapdmcabGp
import Derived.Deep.RegionHeld3
namespace Go.Proofs.Yteggllmiapdmcab
open Go.RowKit

set_option maxRecDepth 1000000 in
set_option maxHeartbeats 4000000 in
theorem com_walk (x_aG : Gp) (A_aG : Option Addr) (n_aG c_aG : Nat) (w : World) (h_aG : Rows2 w.heap.size w A_aG n_aG x_aG.G) :
    Calls Try.prog 5 #[gpV x_aG A_aG n_aG c_aG] w fun e w' => e = .returned (.bool true) ∧ Below w.heap.size w w' := by
  have H_aG := held_row2 h_aG
  have t0 : Hid (w.heap.size ≤ w.heap.size) := Lib.hid (Nat.le_refl _)
  have bel0 : Below w.heap.size w w := Below.refl _ _
  obtain ⟨W1, hW2⟩ : ∃ W1, W1 = w.alloc (.cells #[.slice A_aG n_aG c_aG] 24) := ⟨_, rfl⟩
  have be3 : Below w.heap.size w W1 := by rw [hW2]; exact (Below.refl _ _).alloc (Nat.le_refl _) _
  have bk4 : Blk W1 w.heap.size #[.slice A_aG n_aG c_aG] 24 := by rw [hW2]; exact Blk.new _ _ _
  have lt5 : Hid (w.heap.size < W1.heap.size) := Lib.hid (Blk.lt bk4)
  have h6 := Held.ran H_aG (ran_below be3 _) (Nat.le_refl _) (.inr (Nat.le_refl _))
  have bel7 : Below w.heap.size w W1 := Below.trans bel0 (Below.mono be3 (Nat.le_refl _))
  have t8 : Hid (w.heap.size ≤ W1.heap.size) := Lib.hid (Nat.le_trans t0.out (Below.size be3))
  clear H_aG bel0
  have le9 : Hid (w.heap.size ≤ W1.heap.size) := t8
  have t10 : Hid (W1.heap.size ≤ W1.heap.size) := Lib.hid (Nat.le_refl _)
  have h11 := held_blk bk4 (Nat.le_refl _) lt5.out
  clear bk4 be3
  go_enter Try.func5, Try.ntmps5
  go_wp2_with fail
  rw [show w.alloc (.cells #[.slice A_aG n_aG c_aG] 24) = W1 from hW2.symm]
  clear hW2
  (go_at_call 14; (with_reducible refine (szGroup_any x_aG _ _ _ 1048576 _ (Rows2.up (Held.now h6) (Nat.le_trans (le9.out) t10.out)) (by omega) (by omega) (Nat.le_refl _)).mono ?_); rintro e W13 ⟨rfl, b12⟩)
  have h14 := Held.ran h6 (ran_below b12 _) (Nat.le_trans (le9.out) t10.out) (.inr (Nat.le_refl _))
  have h15 := Held.ran h11 (ran_below b12 _) (Nat.le_refl _) (.inr (Nat.le_refl _))
  have bel16 : Below w.heap.size w W13 := Below.trans bel7 (Below.mono b12 (Nat.le_trans (le9.out) t10.out))
  have t17 : Hid (W1.heap.size ≤ W13.heap.size) := Lib.hid (Nat.le_trans t10.out (Below.size b12))
  clear h6 h11 bel7
  clear b12
  by_cases big18 : (1048576 : Int) < ((tot2 x_aG.G) : Nat)
  · rw [szF_big big18]
    go_wp2_with fail
    go_ret
    exact ⟨rfl, bel16⟩
  have e19 := szF_ok big18
  have H20 : Hid ((tot2 x_aG.G) ≤ 1048576) := Lib.hid (by omega)
  have hbd_aG : (tot2 x_aG.G) ≤ 1048576 := H20.out
  have hz23 : 0 ≤ szF 1048576 (tot2 x_aG.G) ∧ szF 1048576 (tot2 x_aG.G) ≤ 1048576 := by rw [e19]; omega
  generalize szF 1048576 (tot2 x_aG.G) = LEFT21 at hz23 ⊢
  clear e19 big18
  have HL22 := Lib.hid hz23
  have hz23a := hz23.1
  clear hz23
  have bk25 := Held.now h15
  have q26 := Blk.cell bk25 0
  clear bk25
  go_wp2_with fail
  have le27 : Hid (W1.heap.size ≤ W13.heap.size) := t17
  have t28 : Hid (W13.heap.size ≤ W13.heap.size) := Lib.hid (Nat.le_refl _)
  (go_at_call 16; (with_reducible refine (toGroup_any x_aG _ _ _ _ (Rows2.up (Held.now h14) (Nat.le_trans (le9.out) t17.out)) (Nat.le_refl _) H20.out).mono ?_); rintro e W29 ⟨A32, c33, L34, rfl, o31, b30⟩)
  have h38 := Held.ran h14 (ran_below b30 _) (Nat.le_trans (Nat.le_trans (le9.out) le27.out) t28.out) (.inr (Nat.le_refl _))
  have h39 := Held.ran h15 (ran_below b30 _) (Nat.le_trans (le27.out) t28.out) (.inr (Nat.le_refl _))
  have bel40 : Below w.heap.size w W29 := Below.trans bel16 (Below.mono b30 (Nat.le_trans (Nat.le_trans (le9.out) le27.out) t28.out))
  have t41 : Hid (W13.heap.size ≤ W29.heap.size) := Lib.hid (Nat.le_trans t28.out (Below.size b30))
  clear h14 h15 bel16
  have le42 : Hid (W13.heap.size ≤ W29.heap.size) := t41
  have t43 : Hid (W29.heap.size ≤ W29.heap.size) := Lib.hid (Nat.le_refl _)
  have fr44 := Own2.from o31
  have lt45 := Own2.lt o31
  have olt46 := Own2.olt o31
  have h47 := held_own2 o31 lt45 olt46
  have ln48 : (lens L34).sum ≤ 2000000 := by rw [Own2.lens o31]; exact Nat.le_trans (sum_le_tot2 _) (Nat.le_trans H20.out (by omega))
  clear o31 b30
  clear q26
  go_wp2_with fail
  (go_at_call 21; (with_reducible refine (specCom_any x_aG _ _ _ _ (Own2.row (Held.now h47)) (Nat.le_refl _)).mono ?_); rintro e W50 ⟨rfl, b49⟩)
  have h51 := Held.ran h38 (ran_below b49 _) (Nat.le_trans (Nat.le_trans (Nat.le_trans (le9.out) le27.out) le42.out) t43.out) (.inr (Nat.le_refl _))
  have h52 := Held.ran h39 (ran_below b49 _) (Nat.le_trans (Nat.le_trans (le27.out) le42.out) t43.out) (.inr (Nat.le_refl _))
  have h53 := Held.ran h47 (ran_below b49 _) (Nat.le_refl _) (.inr (Nat.le_refl _))
  have bel54 : Below w.heap.size w W50 := Below.trans bel40 (Below.mono b49 (Nat.le_trans (Nat.le_trans (Nat.le_trans (le9.out) le27.out) le42.out) t43.out))
  have t55 : Hid (W29.heap.size ≤ W50.heap.size) := Lib.hid (Nat.le_trans t43.out (Below.size b49))
  clear h38 h39 h47 bel40
  clear b49
  have bk56 := Held.now h52
  have q57 := Blk.cell bk56 0
  clear bk56
  go_wp2_with fail
  have le58 : Hid (W29.heap.size ≤ W50.heap.size) := t55
  have t59 : Hid (W50.heap.size ≤ W50.heap.size) := Lib.hid (Nat.le_refl _)
  (go_at_call 16; (with_reducible refine (toGroup_any x_aG _ _ _ _ (Rows2.up (Held.now h51) (Nat.le_trans (Nat.le_trans (Nat.le_trans (le9.out) le27.out) le42.out) t55.out)) (Nat.le_refl _) H20.out).mono ?_); rintro e W60 ⟨A63, c64, L65, rfl, o62, b61⟩)
  have h69 := Held.ran h51 (ran_below b61 _) (Nat.le_trans (Nat.le_trans (Nat.le_trans (Nat.le_trans (le9.out) le27.out) le42.out) le58.out) t59.out) (.inr (Nat.le_refl _))
  have h70 := Held.ran h52 (ran_below b61 _) (Nat.le_trans (Nat.le_trans (Nat.le_trans (le27.out) le42.out) le58.out) t59.out) (.inr (Nat.le_refl _))
  have h71 := Held.ran h53 (ran_below b61 _) (Nat.le_trans (le58.out) t59.out) (.inr (Nat.le_refl _))
  have bel72 : Below w.heap.size w W60 := Below.trans bel54 (Below.mono b61 (Nat.le_trans (Nat.le_trans (Nat.le_trans (Nat.le_trans (le9.out) le27.out) le42.out) le58.out) t59.out))
  have t73 : Hid (W50.heap.size ≤ W60.heap.size) := Lib.hid (Nat.le_trans t59.out (Below.size b61))
  clear h51 h52 h53 bel54
  have le74 : Hid (W50.heap.size ≤ W60.heap.size) := t73
  have t75 : Hid (W60.heap.size ≤ W60.heap.size) := Lib.hid (Nat.le_refl _)
  have fr76 := Own2.from o62
  have lt77 := Own2.lt o62
  have olt78 := Own2.olt o62
  have h79 := held_own2 o62 lt77 olt78
  have ln80 : (lens L65).sum ≤ 2000000 := by rw [Own2.lens o62]; exact Nat.le_trans (sum_le_tot2 _) (Nat.le_trans H20.out (by omega))
  clear o62 b61
  clear q57
  have bk85 := Held.now h70
  have q86 : W60.cell? ⟨w.heap.size, 0, none⟩ = some (.slice A_aG n_aG c_aG) := Blk.cell bk85 0
  clear bk85
  have lt87 : w.heap.size < W60.heap.size := Nat.lt_of_lt_of_le lt5.out (Nat.le_trans (Nat.le_trans (Nat.le_trans (Nat.le_trans (le27.out) le42.out) le58.out) le74.out) t75.out)
  have ne88 : w.heap.size ≠ W60.heap.size := Nat.ne_of_lt lt87
  obtain ⟨W81, hW82⟩ : ∃ W81, W81 = W60.alloc (.cells #[.slice A63 x_aG.G.length c64] 28) := ⟨_, rfl⟩
  have be83 : Below W60.heap.size W60 W81 := by rw [hW82]; exact (Below.refl _ _).alloc (Nat.le_refl _) _
  have bk84 : Blk W81 W60.heap.size #[.slice A63 x_aG.G.length c64] 28 := by rw [hW82]; exact Blk.new _ _ _
  have lt89 : Hid (W60.heap.size < W81.heap.size) := Lib.hid (Blk.lt bk84)
  have h90 := Held.ran h69 (ran_below be83 _) (Nat.le_trans (Nat.le_trans (Nat.le_trans (Nat.le_trans (Nat.le_trans (le9.out) le27.out) le42.out) le58.out) le74.out) t75.out) (.inr (Nat.le_refl _))
  have h91 := Held.ran h70 (ran_below be83 _) (Nat.le_trans (Nat.le_trans (Nat.le_trans (Nat.le_trans (le27.out) le42.out) le58.out) le74.out) t75.out) (.inr (Nat.le_refl _))
  have h92 := Held.ran h71 (ran_below be83 _) (Nat.le_trans (Nat.le_trans (le58.out) le74.out) t75.out) (.inr (Nat.le_refl _))
  have h93 := Held.ran h79 (ran_below be83 _) (Nat.le_refl _) (.inr (Nat.le_refl _))
  have bel94 : Below w.heap.size w W81 := Below.trans bel72 (Below.mono be83 (Nat.le_trans (Nat.le_trans (Nat.le_trans (Nat.le_trans (Nat.le_trans (le9.out) le27.out) le42.out) le58.out) le74.out) t75.out))
  have t95 : Hid (W60.heap.size ≤ W81.heap.size) := Lib.hid (Nat.le_trans t75.out (Below.size be83))
  clear h69 h70 h71 h79 bel72
  have le96 : Hid (W60.heap.size ≤ W81.heap.size) := t95
  have t97 : Hid (W81.heap.size ≤ W81.heap.size) := Lib.hid (Nat.le_refl _)
  have h98 := held_blk bk84 (Nat.le_refl _) lt89.out
  clear bk84 be83
  go_wp2_with fail
  rw [show W60.alloc (.cells #[.slice A63 x_aG.G.length c64] 28) = W81 from hW82.symm]
  clear hW82
  clear q86 lt87 ne88
  (go_at_call 22; (with_reducible refine (implCom_any x_aG _ _ _ _ (Own2.row (Held.now h93)) (Nat.le_refl _)).mono ?_); rintro e W100 ⟨rfl, b99⟩)
  have h101 := Held.ran h90 (ran_below b99 _) (Nat.le_trans (Nat.le_trans (Nat.le_trans (Nat.le_trans (Nat.le_trans (Nat.le_trans (le9.out) le27.out) le42.out) le58.out) le74.out) le96.out) t97.out) (.inr (Nat.le_refl _))
  have h102 := Held.ran h91 (ran_below b99 _) (Nat.le_trans (Nat.le_trans (Nat.le_trans (Nat.le_trans (Nat.le_trans (le27.out) le42.out) le58.out) le74.out) le96.out) t97.out) (.inr (Nat.le_refl _))
  have h103 := Held.ran h92 (ran_below b99 _) (Nat.le_trans (Nat.le_trans (Nat.le_trans (le58.out) le74.out) le96.out) t97.out) (.inr (Nat.le_refl _))
  have h104 := Held.ran h93 (ran_below b99 _) (Nat.le_trans (le96.out) t97.out) (.inr (Nat.le_refl _))
  have h105 := Held.ran h98 (ran_below b99 _) (Nat.le_refl _) (.inr (Nat.le_refl _))
  have bel106 : Below w.heap.size w W100 := Below.trans bel94 (Below.mono b99 (Nat.le_trans (Nat.le_trans (Nat.le_trans (Nat.le_trans (Nat.le_trans (Nat.le_trans (le9.out) le27.out) le42.out) le58.out) le74.out) le96.out) t97.out))
  have t107 : Hid (W81.heap.size ≤ W100.heap.size) := Lib.hid (Nat.le_trans t97.out (Below.size b99))
  clear h90 h91 h92 h93 h98 bel94
  clear b99
  have bk108 := Held.now h105
  have q109 : W100.cell? ⟨W60.heap.size, 0, none⟩ = some (.slice A63 x_aG.G.length c64) := Blk.cell bk108 0
  clear bk108
  have bk110 := Held.now h102
  have q111 : W100.cell? ⟨w.heap.size, 0, none⟩ = some (.slice A_aG n_aG c_aG) := Blk.cell bk110 0
  clear bk110
  go_wp2_with fail
  have h112 := Held.ran h101 (ran_drew W100 _) (Nat.le_trans (Nat.le_trans (Nat.le_trans (Nat.le_trans (Nat.le_trans (Nat.le_trans (le9.out) le27.out) le42.out) le58.out) le74.out) le96.out) t107.out) (.inr (Nat.le_refl _))
  have h113 := Held.ran h102 (ran_drew W100 _) (Nat.le_trans (Nat.le_trans (Nat.le_trans (Nat.le_trans (Nat.le_trans (le27.out) le42.out) le58.out) le74.out) le96.out) t107.out) (.inr (Nat.le_refl _))
  have h114 := Held.ran h103 (ran_drew W100 _) (Nat.le_trans (Nat.le_trans (Nat.le_trans (le58.out) le74.out) le96.out) t107.out) (.inr (Nat.le_refl _))
  have h115 := Held.ran h104 (ran_drew W100 _) (Nat.le_trans (le96.out) t107.out) (.inr (Nat.le_refl _))
  have h116 := Held.ran h105 (ran_drew W100 _) (Nat.le_trans (Nat.le_refl _) t107.out) (.inr (Nat.le_refl _))
  have bel117 : Below w.heap.size w (World.drew W100) := below_drew bel106
  have t118 : Hid (W81.heap.size ≤ ((World.drew W100)).heap.size) := t107
  clear h101 h102 h103 h104 h105 bel106
  have le120 : Hid (W81.heap.size ≤ (World.drew W100).heap.size) := t118
  have t121 : Hid ((World.drew W100).heap.size ≤ (World.drew W100).heap.size) := Lib.hid (Nat.le_refl _)
  refine region_held_n 5 (fun w' => w'.cell? ⟨W60.heap.size, 0, none⟩ = some (.slice A63 x_aG.G.length c64) ∧ w'.cell? ⟨w.heap.size, 0, none⟩ = some (.slice A_aG n_aG c_aG)) (by kernel_rfl) (by kernel_rfl) ⟨q109, q111⟩ (fun hS => ?_)
  refine takeD 0 (some 22) (v := ?_) rfl (by kernel_rfl) (by kernel_rfl) (by kernel_rfl) (fun _ _ _ h => h) hS (fun o ho => Or.inl ⟨by cases ho; rfl, ?_⟩) ?_
  rotate_left
  · cases ho
    intro w' hw'
    (try dsimp only at hw')
    go_simp
    (try with_reducible rfl)
  (try simp only [Act.put, List.setIfInBounds_toArray, List.set_cons_zero, List.set_cons_succ])
  refine takeD 1 (some 23) (v := ?_) rfl (by kernel_rfl) (by kernel_rfl) (by kernel_rfl) (fun _ _ _ h => h) hS (fun o ho => Or.inl ⟨by cases ho; rfl, ?_⟩) ?_
  rotate_left
  · cases ho
    intro w' hw'
    (try dsimp only at hw')
    go_simp
    (try with_reducible rfl)
  (try simp only [Act.put, List.setIfInBounds_toArray, List.set_cons_zero, List.set_cons_succ])
  refine oneD 2 (some 24) (by kernel_rfl) rfl (fun o ho K hK hdo => ?_)
  simp only [List.getElem?_toArray, List.getElem?_cons_succ, List.getElem?_cons_zero, Option.some.injEq] at ho
  subst ho
  clear hdo
  rw [if_pos (by rfl)]
  go_wp2_with ((go_at_call 16; (with_reducible refine (toGroup_any x_aG _ _ _ _ (Rows2.up (Held.now h112) (Nat.le_trans (Nat.le_trans (Nat.le_trans (Nat.le_trans (Nat.le_trans (Nat.le_trans (le9.out) le27.out) le42.out) le58.out) le74.out) le96.out) t118.out)) (Nat.le_refl _) H20.out).mono ?_); rintro e W122 ⟨A125, c126, L127, rfl, o124, b123⟩))
  have h131 := Held.ran h112 (ran_below b123 _) (Nat.le_trans (Nat.le_trans (Nat.le_trans (Nat.le_trans (Nat.le_trans (Nat.le_trans (Nat.le_trans (le9.out) le27.out) le42.out) le58.out) le74.out) le96.out) le120.out) t121.out) (.inr (Nat.le_refl _))
  have h132 := Held.ran h113 (ran_below b123 _) (Nat.le_trans (Nat.le_trans (Nat.le_trans (Nat.le_trans (Nat.le_trans (Nat.le_trans (le27.out) le42.out) le58.out) le74.out) le96.out) le120.out) t121.out) (.inr (Nat.le_refl _))
  have h133 := Held.ran h114 (ran_below b123 _) (Nat.le_trans (Nat.le_trans (Nat.le_trans (Nat.le_trans (le58.out) le74.out) le96.out) le120.out) t121.out) (.inr (Nat.le_refl _))
  have h134 := Held.ran h115 (ran_below b123 _) (Nat.le_trans (Nat.le_trans (le96.out) le120.out) t121.out) (.inr (Nat.le_refl _))
  have h135 := Held.ran h116 (ran_below b123 _) (Nat.le_trans (le120.out) t121.out) (.inr (Nat.le_refl _))
  have bel136 : Below w.heap.size w W122 := Below.trans bel117 (Below.mono b123 (Nat.le_trans (Nat.le_trans (Nat.le_trans (Nat.le_trans (Nat.le_trans (Nat.le_trans (Nat.le_trans (le9.out) le27.out) le42.out) le58.out) le74.out) le96.out) le120.out) t121.out))
  have t137 : Hid ((World.drew W100).heap.size ≤ W122.heap.size) := Lib.hid (Nat.le_trans t121.out (Below.size b123))
  clear h112 h113 h114 h115 h116 bel117
  have le138 : Hid ((World.drew W100).heap.size ≤ W122.heap.size) := t137
  have t139 : Hid (W122.heap.size ≤ W122.heap.size) := Lib.hid (Nat.le_refl _)
  have fr140 := Own2.from o124
  have lt141 := Own2.lt o124
  have olt142 := Own2.olt o124
  have h143 := held_own2 o124 lt141 olt142
  have ln144 : (lens L127).sum ≤ 2000000 := by rw [Own2.lens o124]; exact Nat.le_trans (sum_le_tot2 _) (Nat.le_trans H20.out (by omega))
  clear o124 b123
  have bk145 := Held.now h135
  have q146 : W122.cell? ⟨W60.heap.size, 0, none⟩ = some (.slice A63 x_aG.G.length c64) := Blk.cell bk145 0
  clear bk145
  have bk147 := Held.now h132
  have q148 : W122.cell? ⟨w.heap.size, 0, none⟩ = some (.slice A_aG n_aG c_aG) := Blk.cell bk147 0
  clear bk147
  refine hK.out _ _ ?_ (fun hS => ?_)
  · exact ⟨q146, q148⟩
  clear hK K
  (try simp only [Act.put, List.setIfInBounds_toArray, List.set_cons_zero, List.set_cons_succ])
  refine oneD 3 (some 25) (by kernel_rfl) rfl (fun o ho K hK hdo => ?_)
  simp only [List.getElem?_toArray, List.getElem?_cons_succ, List.getElem?_cons_zero, Option.some.injEq] at ho
  subst ho
  clear hdo
  rw [if_pos (by rfl)]
  go_wp2_with ((go_at_call 18; (with_reducible refine (eqGroup_any x_aG _ _ _ _ _ _ (Own2.row (Held.now h134)) (Own2.row (Held.now h143)) (Nat.le_refl _) (Nat.le_refl _)).mono ?_); rintro e W150 ⟨rfl, b149⟩))
  have h151 := Held.ran h131 (ran_below b149 _) (Nat.le_trans (Nat.le_trans (Nat.le_trans (Nat.le_trans (Nat.le_trans (Nat.le_trans (Nat.le_trans (Nat.le_trans (le9.out) le27.out) le42.out) le58.out) le74.out) le96.out) le120.out) le138.out) t139.out) (.inr (Nat.le_refl _))
  have h152 := Held.ran h132 (ran_below b149 _) (Nat.le_trans (Nat.le_trans (Nat.le_trans (Nat.le_trans (Nat.le_trans (Nat.le_trans (Nat.le_trans (le27.out) le42.out) le58.out) le74.out) le96.out) le120.out) le138.out) t139.out) (.inr (Nat.le_refl _))
  have h153 := Held.ran h133 (ran_below b149 _) (Nat.le_trans (Nat.le_trans (Nat.le_trans (Nat.le_trans (Nat.le_trans (le58.out) le74.out) le96.out) le120.out) le138.out) t139.out) (.inr (Nat.le_refl _))
  have h154 := Held.ran h134 (ran_below b149 _) (Nat.le_trans (Nat.le_trans (Nat.le_trans (le96.out) le120.out) le138.out) t139.out) (.inr (Nat.le_refl _))
  have h155 := Held.ran h135 (ran_below b149 _) (Nat.le_trans (Nat.le_trans (le120.out) le138.out) t139.out) (.inr (Nat.le_refl _))
  have h156 := Held.ran h143 (ran_below b149 _) (Nat.le_refl _) (.inr (Nat.le_refl _))
  have bel157 : Below w.heap.size w W150 := Below.trans bel136 (Below.mono b149 (Nat.le_trans (Nat.le_trans (Nat.le_trans (Nat.le_trans (Nat.le_trans (Nat.le_trans (Nat.le_trans (Nat.le_trans (le9.out) le27.out) le42.out) le58.out) le74.out) le96.out) le120.out) le138.out) t139.out))
  have t158 : Hid (W122.heap.size ≤ W150.heap.size) := Lib.hid (Nat.le_trans t139.out (Below.size b149))
  clear h131 h132 h133 h134 h135 h143 bel136
  have bk159 := Held.now h155
  have q160 : W150.cell? ⟨W60.heap.size, 0, none⟩ = some (.slice A63 x_aG.G.length c64) := Blk.cell bk159 0
  clear bk159
  have bk161 := Held.now h152
  have q162 : W150.cell? ⟨w.heap.size, 0, none⟩ = some (.slice A_aG n_aG c_aG) := Blk.cell bk161 0
  clear bk161
  clear b149
  refine hK.out _ _ ?_ (fun hS => ?_)
  · exact ⟨q160, q162⟩
  clear hK K
  (try simp only [Act.put, List.setIfInBounds_toArray, List.set_cons_zero, List.set_cons_succ])
  refine takeD 4 (some 26) (v := ?_) rfl (by kernel_rfl) (by kernel_rfl) (by kernel_rfl) (fun _ _ _ h => h) hS (fun o ho => Or.inl ⟨by cases ho; rfl, ?_⟩) ?_
  rotate_left
  · cases ho
    intro w' hw'
    (try dsimp only at hw')
    go_simp
    (try with_reducible rfl)
  (try simp only [Act.put, List.setIfInBounds_toArray, List.set_cons_zero, List.set_cons_succ])
  refine wpAnyH_done (by kernel_rfl) ?_ _
  clear hS
  clear q109 q111 q146 q148 q160 q162
  go_wp2_with fail
  go_ret
  exact ⟨rfl, bel157⟩
end Go.Proofs.Yteggllmiapdmcab
